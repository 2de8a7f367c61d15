import Derived.RangeFuncNested
import Derived.RangeFuncBound
import Derived.RangeFuncCalls
import Derived.RangeFuncLeaves
import Derived.RangeFuncFrom
import Derived.Shelf.Abstract
import Derived.Shelf.RegionOpen
import Derived.OwnWalkIn
import Derived.TacticsInMore
import Derived.LoopNIn
import Derived.LoopIn
import Derived.Test.YtlflfieknibgmaaGreatDoorM26
namespace Go.Proofs.YtlflfieknibgmaaGreatDoor
set_option linter.all false
open Go.RowKit Go.Fl
attribute [local go_sem] Oper.semAt_some
def headB (st ct ln : Int) : List Int := [201, st, ct % 65536 / 256, ct % 256, ln]
def tailB (xs : List Nat) : List Int := xs.flatMap fun x => [hiI x, loI x]
def bodyB (st ct ln : Int) (xs : List Nat) : List Int := headB st ct ln ++ tailB xs
theorem index_head (a0 a1 a2 a3 a4 : Int) (j : Nat) (hj : j < 5) (w : World) :
    (Instr.index 215 (.agg #[.int .u8 a0, .int .u8 a1, .int .u8 a2, .int .u8 a3, .int .u8 a4]) (.int .i64 (j : Int))).run Tryz.prog w = .ok (.int .u8 ([a0, a1, a2, a3, a4].getD j 0)) w := by
  rcases (show j = 0 ∨ j = 1 ∨ j = 2 ∨ j = 3 ∨ j = 4 by omega) with rfl | rfl | rfl | rfl | rfl
  all_goals kernel_rfl
theorem index_samp (x0 x1 x2 x3 x4 x5 x6 x7 : Nat) (j : Nat) (hj : j < 8) (w : World) :
    (Instr.index 65 (.agg #[.float .f32 x0, .float .f32 x1, .float .f32 x2, .float .f32 x3, .float .f32 x4, .float .f32 x5, .float .f32 x6, .float .f32 x7]) (.int .i64 (j : Int))).run Tryz.prog w = .ok (.float .f32 ([x0, x1, x2, x3, x4, x5, x6, x7].getD j 0)) w := by
  rcases (show j = 0 ∨ j = 1 ∨ j = 2 ∨ j = 3 ∨ j = 4 ∨ j = 5 ∨ j = 6 ∨ j = 7 by omega) with rfl | rfl | rfl | rfl | rfl | rfl | rfl | rfl
  all_goals kernel_rfl
theorem take_getD {l : List Int} {k : Nat} (h : k < l.length) : l.take (k + 1) = l.take k ++ [l.getD k 0] := by
  rw [List.take_succ_eq_append_getElem h]; simp [List.getD, List.getElem?_eq_getElem h]
theorem tailB_take {xs : List Nat} {k : Nat} (h : k < xs.length) : tailB (xs.take (k + 1)) = tailB (xs.take k) ++ [hiI (xs.getD k 0)] ++ [loI (xs.getD k 0)] := by
  rw [List.take_succ_eq_append_getElem h, tailB, List.flatMap_append]; simp [tailB, List.getD, List.getElem?_eq_getElem h]
def KeepB (g : Nat) (A B : World) : Prop := B.heap[g]? = A.heap[g]?
theorem KeepB.refl (g : Nat) (A : World) : KeepB g A A := rfl
theorem KeepB.trans {g : Nat} {A B C : World} (h : KeepB g A B) (k : KeepB g B C) : KeepB g A C := Eq.trans k h
theorem keepB_b {g : Nat} {w : World} (hg : g < w.heap.size) (W : World) (l : Nat) (o o' : Obj) (hl : w.heap.size ≤ l) (_ : W.heap[l]? = some o) (_ : o.isCells = false) (_ : o.isWalk = false) : KeepB g W (W.putObj l o') := World.putObj_heap_other (by omega)
set_option maxRecDepth 100000 in
set_option maxHeartbeats 3000000 in
theorem body1_in (n : Nat) (hn : 1 ≤ n) (l Bn : Nat) (st ct ln : Int) (x0 x1 x2 x3 x4 x5 x6 x7 : Nat) (hst : 0 ≤ st ∧ st ≤ 255) (hct : 0 ≤ ct ∧ ct ≤ 65535) (hln : 0 ≤ ln ∧ ln ≤ 8) (hxs : ∀ x ∈ [x0, x1, x2, x3, x4, x5, x6, x7], sampI x = 0) (J Jx : List Int → World → Prop)
    (hY : ∀ pre x W, J pre W → pre.length < 21 → YieldAt Fence.wide (n - 1) Tryz.prog l #[.int .u8 x] W fun e W' =>
      (e = .returned (.bool true) ∧ J (pre ++ [x]) W' ∧ KeepB Bn W W') ∨ (e = .returned (.bool false) ∧ Jx (pre ++ [x]) W'))
    (W : World) (hB : Row W Bn 72 (pkC st ct ln [x0, x1, x2, x3, x4, x5, x6, x7])) (h0 : J [] W) :
    CallsIn Fence.wide n Tryz.prog 119 #[.func (.yield l) #[] #[], .pointer (some ⟨Bn, 0, none⟩)] W fun e W' => (∃ v, e = .returned v) ∧
      ((∃ ys, ys = bodyB st ct ln [x0, x1, x2, x3, x4, x5, x6, x7] ∧ J ys W') ∨ (∃ pre, True ∧ Jx pre W')) := by
  have c0 := hB.cell 0; have c1 := hB.cell 1; have c2 := hB.cell 2
  simp only [pkC, flts, List.cons_append, List.nil_append, List.map_cons, List.map_nil, List.getElem?_cons_succ, List.getElem?_cons_zero] at c0 c1 c2
  have HBX : Hid (∀ V, KeepB Bn W V → Row V Bn 72 (pkC st ct ln [x0, x1, x2, x3, x4, x5, x6, x7])) := fun V hV => Eq.trans hV hB
  have HH : Hid (∀ V, Calls Tryz.prog 82 #[.int .i64 ct] V fun e w' => e = .returned (.tuple #[.int .u8 (ct % 65536 / 256), .int .u8 (ct % 256)]) ∧ V = w') := fun V => halves_any ct V (by omega)
  have HX := Lib.hid hxs
  obtain ⟨a2, ha2⟩ : ∃ a2, a2 = ct % 65536 / 256 := ⟨_, rfl⟩
  obtain ⟨a3, ha3⟩ : ∃ a3, a3 = ct % 256 := ⟨_, rfl⟩
  rw [← ha2, ← ha3] at HH
  have HHB : Hid (headB st ct ln = [201, st, a2, a3, ln]) := by unfold Hid headB; rw [ha2, ha3]
  have HI5 := Lib.hid (fun (j : Nat) (hj : j < 5) V => index_head 201 st a2 a3 ln j hj V)
  have HI8 := Lib.hid (fun (j : Nat) (hj : j < 8) V => index_samp x0 x1 x2 x3 x4 x5 x6 x7 j hj V)
  have u1 : IntKind.u8.wrap st = st := by unfold IntKind.wrap; simp [IntKind.signed, IntKind.bits]; omega
  have u2 : IntKind.u8.wrap ln = ln := by unfold IntKind.wrap; simp [IntKind.signed, IntKind.bits]; omega
  have HY := Lib.hid hY
  clear ha2 ha3 hxs hB hct hY
  refine callsIn_of_wp Tryz.func119 rfl trivial ?_ rfl
  simp only [Tryz.ntmps119, List.size_toArray, List.length_cons, List.length_nil, Nat.reduceAdd, Nat.reduceSub, Array.replicate_succ, Array.replicate_zero, List.push_toArray, List.append_toArray, List.nil_append, List.cons_append]
  gi_wp2_with (refine ⟨trivial, ?_⟩; gi_at_call 82; refine (callsIn_wide.2 (HH.out _)).mono ?_; rintro e w' ⟨rfl, rfl⟩)
  gi_loopw [26] (fun i wr => ∃ k : Nat, k ≤ 5 ∧ i = .int .i64 k ∧ Hid (J ([201, st, a2, a3, ln].take k) wr) ∧ Hid (KeepB Bn W wr)) (fun i _ => 5 - (intOf i).toNat)
  case atStart => exact ⟨0, Nat.zero_le _, rfl, h0, KeepB.refl _ _⟩
  case round =>
    obtain ⟨k, hk, rfl, Hj, Hb⟩ := hrel
    by_cases hlt5 : k < 5
    · obtain ⟨bk, hbk⟩ : ∃ bk, bk = [201, st, a2, a3, ln].getD k 0 := ⟨_, rfl⟩
      have hi := fun V => HI5.out k hlt5 V
      rw [← hbk] at hi
      obtain ⟨fn, tmps, assign, body, hy, hR⟩ := HY.out _ bk wr Hj.out (by rw [List.length_take]; simp; omega)
      have HTK : Hid ([201, st, a2, a3, ln].take (k + 1) = [201, st, a2, a3, ln].take k ++ [bk]) := by unfold Hid; rw [hbk]; exact take_getD (by simpa using hlt5)
      have HRR := Lib.hid hR
      clear hbk hR
      gi_wp2
      refine HRR.out.mono ?_
      rintro e W3 (⟨rfl, hJ3, hk3⟩ | ⟨rfl, hJx3⟩)
      · have HJ3 := Lib.hid hJ3; have HK3 := Lib.hid (Hb.out.trans hk3)
        clear hJ3 hk3
        gi_wp2
        go_roundw
        case rel => exact ⟨k + 1, by omega, by go_num, by rw [HTK.out]; exact HJ3, HK3⟩
        case measure => simp [intOf]; omega
      · gi_wp2
        refine bodyPost_ret (results_none rfl _ _ _) rfl ?_
        exact ⟨⟨_, rfl⟩, .inr ⟨_, trivial, hJx3⟩⟩
    · obtain rfl : k = 5 := by omega
      rw [show ((5 : Nat) : Int) = 5 from rfl]
      have HJ5 : Hid (J (headB st ct ln) wr) := by unfold Hid; rw [HHB.out]; exact Hj.out
      have hrow := HBX.out _ Hb.out
      have d3 := hrow.cell 3; have d4 := hrow.cell 4; have d5 := hrow.cell 5; have d6 := hrow.cell 6; have d7 := hrow.cell 7; have d8 := hrow.cell 8; have d9 := hrow.cell 9; have d10 := hrow.cell 10
      simp only [pkC, flts, List.cons_append, List.nil_append, List.map_cons, List.map_nil, List.getElem?_cons_succ, List.getElem?_cons_zero] at d3 d4 d5 d6 d7 d8 d9 d10
      clear hrow Hj HI5
      gi_wp2
      gi_loopw [36] (fun i wr => ∃ k : Nat, k ≤ 8 ∧ i = .int .i64 k ∧ Hid (J (headB st ct ln ++ tailB ([x0, x1, x2, x3, x4, x5, x6, x7].take k)) wr) ∧ Hid (KeepB Bn W wr)) (fun i _ => 8 - (intOf i).toNat)
      case atStart => exact ⟨0, Nat.zero_le _, rfl, by simpa [tailB] using HJ5, Hb⟩
      case round =>
        clear HJ5 Hb
        obtain ⟨k, hk, rfl, Hj, Hb⟩ := hrel
        by_cases hlt8 : k < 8
        · obtain ⟨xk, hxk⟩ : ∃ xk, xk = [x0, x1, x2, x3, x4, x5, x6, x7].getD k 0 := ⟨_, rfl⟩
          have hi := fun V => HI8.out k hlt8 V
          rw [← hxk] at hi
          have hsx : sampI xk = 0 := by
            rw [hxk, show [x0, x1, x2, x3, x4, x5, x6, x7].getD k 0 = [x0, x1, x2, x3, x4, x5, x6, x7][k]'(by simpa using hlt8) by simp [List.getD, List.getElem?_eq_getElem (show k < [x0, x1, x2, x3, x4, x5, x6, x7].length by simpa using hlt8)]]
            exact HX.out _ (List.getElem_mem _)
          have hub := unitI_bd2 hsx
          have HU : Hid (∀ V, Calls Tryz.prog 76 #[.float .f32 xk] V fun e w' => e = .returned (.int .i64 (unitI xk)) ∧ V = w') := fun V => unitOf_ok xk V hsx
          have HV : Hid (∀ V, Calls Tryz.prog 82 #[.int .i64 (unitI xk)] V fun e w' => e = .returned (.tuple #[.int .u8 (hiI xk), .int .u8 (loI xk)]) ∧ V = w') := fun V => halves_any (unitI xk) V hub
          have HTK : Hid (tailB ([x0, x1, x2, x3, x4, x5, x6, x7].take (k + 1)) = tailB ([x0, x1, x2, x3, x4, x5, x6, x7].take k) ++ [hiI xk] ++ [loI xk]) := by unfold Hid; rw [hxk]; exact tailB_take (by simpa using hlt8)
          have hlen : (headB st ct ln ++ tailB ([x0, x1, x2, x3, x4, x5, x6, x7].take k)).length = 5 + k * 2 := by
            rw [List.length_append, tailB]
            have h2 : ∀ ys : List Nat, (ys.flatMap fun x => [hiI x, loI x]).length = ys.length * 2 := by
              intro ys; induction ys with
              | nil => rfl
              | cons y ys ih => rw [List.flatMap_cons, List.length_append, ih]; simp; omega
            rw [h2, List.length_take]; simp [headB]; omega
          obtain ⟨fn, tmps, assign, body, hy, hR⟩ := HY.out _ (hiI xk) wr Hj.out (by rw [hlen]; omega)
          have HRR := Lib.hid hR
          have HLEN := Lib.hid hlen
          obtain ⟨ux, hux⟩ : ∃ ux, ux = unitI xk := ⟨_, rfl⟩
          obtain ⟨hx, hhx⟩ : ∃ hx, hx = hiI xk := ⟨_, rfl⟩
          obtain ⟨lx, hlx⟩ : ∃ lx, lx = loI xk := ⟨_, rfl⟩
          rw [← hux] at HU HV; rw [← hhx, ← hlx] at HV HTK; rw [← hhx] at hy HRR
          clear hux hhx hlx hxk hR hub hsx hlen
          gi_wp2_with (first
            | (refine ⟨trivial, ?_⟩; gi_at_call 76; refine (callsIn_wide.2 (HU.out _)).mono ?_; rintro e w' ⟨rfl, rfl⟩)
            | (refine ⟨trivial, ?_⟩; gi_at_call 82; refine (callsIn_wide.2 (HV.out _)).mono ?_; rintro e w' ⟨rfl, rfl⟩))
          refine HRR.out.mono ?_
          rintro e W3 (⟨rfl, hJ3, hk3⟩ | ⟨rfl, hJx3⟩)
          · have HK3 := Lib.hid (Hb.out.trans hk3)
            obtain ⟨fn2, tmps2, assign2, body2, hy2, hR2⟩ := HY.out _ lx W3 hJ3 (by rw [List.length_append, HLEN.out]; simp; omega)
            have HRR2 := Lib.hid hR2
            clear hJ3 hk3 hR2 hy
            gi_wp2
            refine HRR2.out.mono ?_
            rintro e W4 (⟨rfl, hJ4, hk4⟩ | ⟨rfl, hJx4⟩)
            · have HJ4 := Lib.hid hJ4; have HK4 := Lib.hid (HK3.out.trans hk4)
              clear hJ4 hk4
              gi_wp2
              go_roundw
              case rel => exact ⟨k + 1, by omega, by go_num, by rw [HTK.out, ← List.append_assoc, ← List.append_assoc]; exact HJ4, HK4⟩
              case measure => simp [intOf]; omega
            · gi_wp2
              refine bodyPost_ret (results_none rfl _ _ _) rfl ?_
              exact ⟨⟨_, rfl⟩, .inr ⟨_, trivial, hJx4⟩⟩
          · gi_wp2
            refine ⟨fun _ h => (by cases h), ?_⟩
            gi_wp2
            refine bodyPost_ret (results_none rfl _ _ _) rfl ?_
            exact ⟨⟨_, rfl⟩, .inr ⟨_, trivial, hJx3⟩⟩
        · obtain rfl : k = 8 := by omega
          gi_wp2
          go_end0
          exact ⟨⟨_, rfl⟩, .inl ⟨_, rfl, Hj.out⟩⟩
attribute [local go_sem] Oper.semAt_some
def encB (key : List Int) (st ct ln : Int) (xs : List Nat) : List Int := bodyB st ct ln xs ++ sealL key (toB (bodyB st ct ln xs))
def z29 : List Int := [0, 0, 0, 0, 0, 0, 0, 0, 0, 0, 0, 0, 0, 0, 0, 0, 0, 0, 0, 0, 0, 0, 0, 0, 0, 0, 0, 0, 0]
set_option maxHeartbeats 400000 in
theorem body_any (st ct ln : Int) (x0 x1 x2 x3 x4 x5 x6 x7 : Nat) (w : World) : Calls Tryz.prog 62 #[.agg #[.int .i64 st, .int .i64 ct, .int .i64 ln, .float .f32 x0, .float .f32 x1, .float .f32 x2, .float .f32 x3, .float .f32 x4, .float .f32 x5, .float .f32 x6, .float .f32 x7]] w fun e w' => e = .returned (.func (.func 119) #[] #[.pointer (some ⟨w.heap.size, 0, none⟩)]) ∧ w' = w.alloc (.cells #[.int .i64 st, .int .i64 ct, .int .i64 ln, .float .f32 x0, .float .f32 x1, .float .f32 x2, .float .f32 x3, .float .f32 x4, .float .f32 x5, .float .f32 x6, .float .f32 x7] 72) := by
  go_enter Tryz.func62, Tryz.ntmps62
  go_wp2
  go_ret
  exact ⟨rfl, rfl⟩
theorem step_copy_row {P : Program} {ops : Array Oper} {o : Oper} {a : Act} {w : World} {K : Act → World → Prop} {Q : Exit → Act → World → Prop} {E : Prop} (hgd : o.guard = none) (d s : Operand) (dT sT : TypeId)
    (ho : o.op = .call { callee := .builtin .copy, args := #[d, s], argTypes := #[dT, sT] }) (elem : TypeId) (hu : P.underlying dT = some (.slice elem)) (hsz : (P.info? elem).map (·.size) = some 1)
    (g off dLen dCap : Nat) (ad : Addr) (sLen sCap : Nat) (hd : a.eval d = .slice (some ⟨g, off, none⟩) dLen dCap) (hs : a.eval s = .slice (some ad) sLen sCap)
    (cur : List Value) (t : TypeId) (hg : Row w g t cur) (cs : List Value) (hn : cs.length = Nat.min sLen dLen)
    (hsrc : ∀ j v, cs[j]? = some v → w.cell? (ad.add j) = some v) (hfit : off + cs.length ≤ cur.length) (h1 : ∀ v ∈ cs, v.oneCell' = true) (new : List Value) (hnew : new = splice cur off cs)
    (h : K (a.put o.dst (goInt cs.length)) (w.setRow g new.toArray)) :
    if Region.wanted o (yielded ops a.tmps) = true then Oper.wp P o a w K Q else E := by
  have hw : Region.wanted o (yielded ops a.tmps) = true := by simp [Region.wanted, hgd]
  rw [if_pos hw]
  have hrun := run_copy_row (P := P) w dT sT o.type elem g off dLen dCap ad sLen sCap cur.toArray t cs hu hsz hg hn hsrc (by simpa using hfit) h1
  subst hnew
  unfold Oper.wp
  simp [execOp, ho, resolve, invoke, builtin, hd, hs, hrun, Result.andThen]
  exact h
theorem Row.keptN {W W' : World} {row : Option Nat} {g : Nat} {t : TypeId} {vs : List Value} (h : Row W g t vs) (hg : W.grownBy W' row) (hr : ∀ r, row = some r → ∃ o : Obj, W.heap[r]? = some o ∧ o.isCells = false) : Row W' g t vs :=
  h.grown hg (by intro e; obtain ⟨o, ho, hc⟩ := hr g e.symm; rw [show W.heap[g]? = _ from h] at ho; cases ho; cases hc)
theorem gen5 {p : World → Prop} {w0 w : World} (g0 g1 g2 g3 g4 : Nat) (t0 t1 t2 t3 t4 : TypeId) (v0 v1 v2 v3 v4 : List Value) (h0 : Row w g0 t0 v0) (h1 : Row w g1 t1 v1) (h2 : Row w g2 t2 v2) (h3 : Row w g3 t3 v3) (h4 : Row w g4 t4 v4) (hb : Below w0.heap.size w0 w)
    (h : ∀ W, Row W g0 t0 v0 → Row W g1 t1 v1 → Row W g2 t2 v2 → Row W g3 t3 v3 → Row W g4 t4 v4 → Below w0.heap.size w0 W → p W) : p w := h w h0 h1 h2 h3 h4 hb
def fillB (pre : List Int) : List Int := pre ++ List.replicate (29 - pre.length) 0
theorem fillB_set {pre : List Int} {x : Int} (h : pre.length < 29) : (fillB pre).set pre.length x = fillB (pre ++ [x]) := by
  unfold fillB
  rw [List.set_append_right _ _ (Nat.le_refl _), Nat.sub_self, show 29 - pre.length = (29 - (pre.length + 1)) + 1 by omega, List.replicate_succ, List.set_cons_zero, List.length_append, List.length_singleton, List.append_assoc, List.singleton_append]
theorem fillB_length {pre : List Int} (h : pre.length ≤ 29) : (fillB pre).length = 29 := by simp [fillB]; omega
def EncI (w : World) (g7 g8 gK gR : Nat) (kl : List Int) (pre : List Int) (W : World) : Prop :=
  Row W g7 68 (u8s (fillB pre)) ∧ Row W g8 3 [.int .i64 (pre.length : Int)] ∧ Row W gK 57 (u8s kl) ∧ Row W gR 68 (u8s z29) ∧ Below w.heap.size w W
theorem body_stops (n : Nat) (hn : 1 ≤ n) (Bn : Nat) (st ct ln : Int) (x0 x1 x2 x3 x4 x5 x6 x7 : Nat) (hst : 0 ≤ st ∧ st ≤ 255) (hct : 0 ≤ ct ∧ ct ≤ 65535) (hln : 0 ≤ ln ∧ ln ≤ 8) (hxs : ∀ x ∈ [x0, x1, x2, x3, x4, x5, x6, x7], sampI x = 0)
    (w : World) (hB : Row w Bn 72 (pkC st ct ln [x0, x1, x2, x3, x4, x5, x6, x7])) :
    SeqStopsK Fence.wide n Tryz.prog 119 #[.pointer (some ⟨Bn, 0, none⟩)] (fun x : Int => #[Value.int .u8 x]) (KeepB Bn) (fun ys => ys = bodyB st ct ln [x0, x1, x2, x3, x4, x5, x6, x7]) (fun _ => True) 21 w := fun l J Jx W hW _ _ hY h0 =>
  body1_in n hn l Bn st ct ln x0 x1 x2 x3 x4 x5 x6 x7 hst hct hln hxs J Jx hY W (hB.old hW) h0
set_option maxRecDepth 100000 in
set_option maxHeartbeats 3000000 in
theorem encode_ok (k0 k1 k2 k3 k4 k5 k6 k7 : Int) (st ct ln : Int) (x0 x1 x2 x3 x4 x5 x6 x7 : Nat) (w : World) (hok : pkI st ct ln [x0, x1, x2, x3, x4, x5, x6, x7] = 0) (hxs : ∀ x ∈ [x0, x1, x2, x3, x4, x5, x6, x7], sampI x = 0) (hst : 0 ≤ st ∧ st ≤ 255) (hct : 0 ≤ ct ∧ ct ≤ 65535) (hln : 0 ≤ ln ∧ ln ≤ 8) (hkeys : ∀ j (h : j < 8), isByte ([k0, k1, k2, k3, k4, k5, k6, k7][j])) :
    Calls Tryz.prog 18 #[.agg #[.int .u8 k0, .int .u8 k1, .int .u8 k2, .int .u8 k3, .int .u8 k4, .int .u8 k5, .int .u8 k6, .int .u8 k7], .agg #[.int .i64 st, .int .i64 ct, .int .i64 ln, .float .f32 x0, .float .f32 x1, .float .f32 x2, .float .f32 x3, .float .f32 x4, .float .f32 x5, .float .f32 x6, .float .f32 x7]] w fun e w' => e = .returned (.tuple #[.agg (u8s (encB [k0, k1, k2, k3, k4, k5, k6, k7] st ct ln [x0, x1, x2, x3, x4, x5, x6, x7])).toArray, .int .i64 0]) ∧ Below w.heap.size w w' := by
  have HC : Hid (∀ W, Calls Tryz.prog 61 #[.agg #[.int .i64 st, .int .i64 ct, .int .i64 ln, .float .f32 x0, .float .f32 x1, .float .f32 x2, .float .f32 x3, .float .f32 x4, .float .f32 x5, .float .f32 x6, .float .f32 x7]] W fun e w' => e = .returned (.int .i64 0) ∧ Below W.heap.size W w') := fun W => by
    have h := checkPacket_any st ct ln x0 x1 x2 x3 x4 x5 x6 x7 W; rw [hok] at h; exact h
  have HX := Lib.hid hxs; have HST := Lib.hid hst; have HCT := Lib.hid hct; have HLN := Lib.hid hln; have HKY := Lib.hid hkeys
  clear hok hxs hst hct hln hkeys
  refine (callsIn_wide (n := 4)).1 ?_
  refine callsIn_of_wp_marks Tryz.func18 rfl trivial ?_ rfl
  simp only [Tryz.ntmps18, List.size_toArray, List.length_cons, List.length_nil, Nat.reduceAdd, Nat.reduceSub, Array.replicate_succ, Array.replicate_zero, List.push_toArray, List.append_toArray, List.nil_append, List.cons_append]
  refine wpIn_wide.2 ?_
  go_wp2_with fail
  have rk0 := Row.new w 57 (u8s [k0, k1, k2, k3, k4, k5, k6, k7])
  have rp0 := Row.new (w.alloc (.cells (u8s [k0, k1, k2, k3, k4, k5, k6, k7]).toArray 57)) 72 (pkC st ct ln [x0, x1, x2, x3, x4, x5, x6, x7])
  have rr0 := Row.new ((w.alloc (.cells (u8s [k0, k1, k2, k3, k4, k5, k6, k7]).toArray 57)).alloc (.cells (pkC st ct ln [x0, x1, x2, x3, x4, x5, x6, x7]).toArray 72)) 68 (u8s z29)
  rw [World.size_alloc] at rp0
  rw [World.size_alloc, World.size_alloc] at rr0
  have rk1 := (rk0.alloc (.cells (pkC st ct ln [x0, x1, x2, x3, x4, x5, x6, x7]).toArray 72)).alloc (.cells (u8s z29).toArray 68)
  have rp1 := rp0.alloc (.cells (u8s z29).toArray 68)
  have rb1 : Below w.heap.size w (((w.alloc (.cells (u8s [k0, k1, k2, k3, k4, k5, k6, k7]).toArray 57)).alloc (.cells (pkC st ct ln [x0, x1, x2, x3, x4, x5, x6, x7]).toArray 72)).alloc (.cells (u8s z29).toArray 68)) := (((Below.refl w.heap.size w).alloc (Nat.le_refl _) _).alloc (by simp) _).alloc (by simp; omega) _
  have RK := Lib.hid rk1; have RP := Lib.hid rp1; have RR := Lib.hid rr0; have RB := Lib.hid rb1
  clear rk0 rp0 rr0 rk1 rp1 rb1
  refine (HC.out _).mono ?_
  rintro e w1 ⟨rfl, hb1⟩
  have RK1 : Hid (Row w1 w.heap.size 57 (u8s [k0, k1, k2, k3, k4, k5, k6, k7])) := RK.out.old hb1
  have RP1 : Hid (Row w1 (w.heap.size + 1) 72 (pkC st ct ln [x0, x1, x2, x3, x4, x5, x6, x7])) := RP.out.old hb1
  have RR1 : Hid (Row w1 (w.heap.size + 1 + 1) 68 (u8s z29)) := RR.out.old hb1
  have RB1 : Hid (Below w.heap.size w w1) := RB.out.trans (hb1.mono RB.out.size)
  have hz1 : w.heap.size + 1 + 1 < w1.heap.size := RR1.out.lt
  clear hb1 RK RP RR RB HC
  go_wp2_with (first | (refine wpList_load_row rfl 72 _ rfl (w.heap.size + 1) rfl 72 #[.int .i64 st, .int .i64 ct, .int .i64 ln, .float .f32 x0, .float .f32 x1, .float .f32 x2, .float .f32 x3, .float .f32 x4, .float .f32 x5, .float .f32 x6, .float .f32 x7] (0, 0) _ ((RP1.out.alloc _).alloc _) Tryz.underlying72 rfl ?_ ?_; (rw [info54]; rfl)) | (go_at_call 62; refine (body_any st ct ln x0 x1 x2 x3 x4 x5 x6 x7 _).mono ?_; rintro e w2 ⟨rfl, rfl⟩))
  have r7 := Row.new w1 68 (u8s z29)
  have r8 := Row.new (w1.alloc (.cells (u8s z29).toArray 68)) 3 [.int .i64 0]
  have rB := Row.new ((w1.alloc (.cells (u8s z29).toArray 68)).alloc (.cells [.int .i64 0].toArray 3)) 72 (pkC st ct ln [x0, x1, x2, x3, x4, x5, x6, x7])
  rw [World.size_alloc] at r8
  rw [World.size_alloc, World.size_alloc] at rB
  refine gen5 (w0 := w) w1.heap.size (w1.heap.size + 1) (w1.heap.size + 1 + 1) w.heap.size (w.heap.size + 1 + 1) _ _ _ _ _ _ _ _ _ _ ((r7.alloc _).alloc _) (r8.alloc _) rB (((RK1.out.alloc _).alloc _).alloc _) (((RR1.out.alloc _).alloc _).alloc _) (((RB1.out.alloc RB1.out.size _).alloc (by simp; omega) _).alloc (by simp; omega) _) ?_
  clear r7 r8 rB RK1 RP1 RR1 RB1
  intro WL l7 l8 lB lK lR lb
  have hB1 : w1.heap.size + 1 + 1 < WL.heap.size := lB.lt
  have hs1 : w.heap.size ≤ WL.heap.size := lb.size
  refine wpIn_wide.1 (?_ : Code.wpIn Fence.wide 4 Tryz.prog _ _ _ _)
  refine wpIn_rangeFunc_ownF rfl (by omega) (gf := 119) (lb := #[.pointer (some ⟨w1.heap.size + 1 + 1, 0, none⟩)]) rfl trivial (enters_of Tryz.func119 (by kernel_rfl) rfl)
    (body_stops 3 (by omega) (w1.heap.size + 1 + 1) st ct ln x0 x1 x2 x3 x4 x5 x6 x7 HST.out HCT.out HLN.out HX.out WL lB) (fun h k => KeepB.trans h k) (keepB_b hB1) (Below.refl _ _) (fun _ => rfl)
    (EncI w w1.heap.size (w1.heap.size + 1) w.heap.size (w.heap.size + 1 + 1) [k0, k1, k2, k3, k4, k5, k6, k7])
    (fun _ _ _ => False)
    (fun s A B row hs hg hr => ⟨hs.1.keptN hg (fun r e => (hr r e).2), hs.2.1.keptN hg (fun r e => (hr r e).2), hs.2.2.1.keptN hg (fun r e => (hr r e).2), hs.2.2.2.1.keptN hg (fun r e => (hr r e).2), hs.2.2.2.2.grown hg hs.2.2.2.2.size (fun k e => Nat.le_trans hs1 (hr k e).1)⟩)
    (fun _ _ _ _ _ hs _ _ => hs)
    ⟨l7, l8, lK, lR, lb⟩
    (fun x => { tmps := #[.agg #[.int .u8 k0, .int .u8 k1, .int .u8 k2, .int .u8 k3, .int .u8 k4, .int .u8 k5, .int .u8 k6, .int .u8 k7], .agg #[.int .i64 st, .int .i64 ct, .int .i64 ln, .float .f32 x0, .float .f32 x1, .float .f32 x2, .float .f32 x3, .float .f32 x4, .float .f32 x5, .float .f32 x6, .float .f32 x7], .pointer (some ⟨w.heap.size, 0, none⟩), .pointer (some ⟨w.heap.size + 1, 0, none⟩), .pointer (some ⟨w.heap.size + 1 + 1, 0, none⟩), .int .i64 0, .int .i64 0, .pointer (some ⟨w1.heap.size, 0, none⟩), .pointer (some ⟨w1.heap.size + 1, 0, none⟩), .int .u8 x, undef, .agg #[.int .i64 st, .int .i64 ct, .int .i64 ln, .float .f32 x0, .float .f32 x1, .float .f32 x2, .float .f32 x3, .float .f32 x4, .float .f32 x5, .float .f32 x6, .float .f32 x7], .int .i64 0, .int .i64 0, .bool false, undef, undef, .agg #[.int .i64 st, .int .i64 ct, .int .i64 ln, .float .f32 x0, .float .f32 x1, .float .f32 x2, .float .f32 x3, .float .f32 x4, .float .f32 x5, .float .f32 x6, .float .f32 x7], .func (.func 119) #[] #[.pointer (some ⟨w1.heap.size + 1 + 1, 0, none⟩)], .int .u8 x, undef, undef, undef, undef, undef, undef, undef, undef, undef, undef, undef, undef], defers := [] }) ?assign ?body ?done ?stop
  case assign =>
    intro l x W K hK
    gi_wp2
    exact hK
  case body =>
    rintro l pre x W ⟨h7, h8, hK, hR, hb⟩ hlen
    have c8 : W.cell? ⟨w1.heap.size + 1, 0, none⟩ = some (.int .i64 (pre.length : Int)) := by rw [h8.cell]; rfl
    have f8 := h8.free 0
    obtain ⟨v7, c7⟩ : ∃ v, W.cell? ⟨w1.heap.size, pre.length, none⟩ = some v := ⟨_, h7.cellAt (by rw [u8s_length, fillB_length (by omega)]; omega)⟩
    have f7 := h7.free pre.length
    have i1 : (pre.length : Int) < 29 := by omega
    have i2 : (0 : Int) ≤ (pre.length : Int) := by omega
    have n1 : ¬ w1.heap.size = w1.heap.size + 1 := by omega
    have n2 : ¬ w1.heap.size + 1 = w1.heap.size := by omega
    have Hlen := Lib.hid hlen
    have H7 := Lib.hid h7; have H8 := Lib.hid h8; have HK := Lib.hid hK; have HR := Lib.hid hR; have HB := Lib.hid hb
    clear hlen h7 h8 hK hR hb
    gi_wp2
    refine ⟨(KeepsOthers.setCell _ _ _).trans (KeepsOthers.setCell _ _ _), ?_, ?_, ?_, ?_, ?_, ?_⟩
    · show _ = _
      rw [heap_setCell_other _ _ _ _ (by simp), heap_setCell_other _ _ _ _ (by simp; omega)]
    · have h := (H7.out.set pre.length (.int .u8 x)).far (p := ⟨w1.heap.size + 1, 0, none⟩) n1 (.int .i64 ((pre.length : Int) + 1))
      rw [show (u8s (fillB pre)).set pre.length (.int .u8 x) = u8s (fillB (pre ++ [x])) by rw [← fillB_set (by have := Hlen.out; omega)]; simp [u8s, List.map_set]] at h
      exact h
    · have h := (H8.out.far (p := ⟨w1.heap.size, pre.length, none⟩) n2 (.int .u8 x)).set 0 (.int .i64 ((pre.length : Int) + 1))
      rw [show ((pre ++ [x]).length : Int) = (pre.length : Int) + 1 by simp]
      exact h
    · exact (HK.out.far (by simp; omega) _).far (by simp; omega) _
    · exact (HR.out.far (by simp; omega) _).far (by simp; omega) _
    · exact (HB.out.setCell (by simp; omega) _).setCell (by simp; omega) _
  case done =>
    rintro D ys W hD rfl ⟨h7, h8, hK, hR, hb⟩ hKD
    obtain ⟨BB, hBB⟩ : ∃ BB, BB = bodyB st ct ln [x0, x1, x2, x3, x4, x5, x6, x7] := ⟨_, rfl⟩
    have HEB : Hid (encB [k0, k1, k2, k3, k4, k5, k6, k7] st ct ln [x0, x1, x2, x3, x4, x5, x6, x7] = BB ++ sealL [k0, k1, k2, k3, k4, k5, k6, k7] (toB BB)) := by unfold Hid encB; rw [hBB]
    have hB21 : BB.length = 21 := by rw [hBB]; rfl
    have hBby : ∀ x ∈ BB, isByte x := by
      rw [hBB]
      intro x hx
      simp only [bodyB, headB, tailB, List.flatMap_cons, List.flatMap_nil, List.mem_append, List.mem_cons, List.not_mem_nil, or_false, List.append_nil] at hx
      have h1 := HST.out; have h2 := HCT.out; have h3 := HLN.out
      rcases hx with (rfl | rfl | rfl | rfl | rfl) | (rfl | rfl) | (rfl | rfl) | (rfl | rfl) | (rfl | rfl) | (rfl | rfl) | (rfl | rfl) | (rfl | rfl) | (rfl | rfl)
      all_goals first | exact hiI_byte _ | exact loI_byte _ | (unfold isByte; omega)
    rw [← hBB] at h7
    clear hBB
    obtain ⟨sl, hsl⟩ : ∃ sl, sl = sealL [k0, k1, k2, k3, k4, k5, k6, k7] (toB BB) := ⟨_, rfl⟩
    have hsl8 : sl.length = 8 := by rw [hsl, seal8]; rfl
    obtain ⟨s0, s1, s2, s3, s4, s5, s6, s7, hs8⟩ : ∃ s0 s1 s2 s3 s4 s5 s6 s7, sl = [s0, s1, s2, s3, s4, s5, s6, s7] := by
      match sl, hsl8 with
      | [a, b, c, d, e, f, g, h], _ => exact ⟨a, b, c, d, e, f, g, h, rfl⟩
    have HEB2 : Hid (encB [k0, k1, k2, k3, k4, k5, k6, k7] st ct ln [x0, x1, x2, x3, x4, x5, x6, x7] = BB ++ [s0, s1, s2, s3, s4, s5, s6, s7]) := by unfold Hid; rw [HEB.out, ← hsl, hs8]
    have HRD : Hid (∀ V, Below W.heap.size W V → Calls Tryz.prog 63 #[.agg #[.int .u8 k0, .int .u8 k1, .int .u8 k2, .int .u8 k3, .int .u8 k4, .int .u8 k5, .int .u8 k6, .int .u8 k7], .slice (some ⟨w1.heap.size, 0, none⟩) 21 29] V fun e w' => e = .returned (.agg #[.int .u8 s0, .int .u8 s1, .int .u8 s2, .int .u8 s3, .int .u8 s4, .int .u8 s5, .int .u8 s6, .int .u8 s7]) ∧ Below V.heap.size V w') := fun V hV => by
      have hrd : Rd V (some ⟨w1.heap.size, 0, none⟩) (byts (toB BB)) := by
        have h := (Rd.row (h7.old hV)).take 21
        rw [byts_toB hBby]
        have e : (u8s (fillB BB)).take 21 = u8s BB := by
          rw [fillB, u8s_app, List.take_append_of_le_length (by rw [u8s_length, hB21]; exact Nat.le_refl _), List.take_of_length_le (by rw [u8s_length, hB21]; exact Nat.le_refl _)]
        rwa [e] at h
      have hc := sealed_any k0 k1 k2 k3 k4 k5 k6 k7 (some ⟨w1.heap.size, 0, none⟩) 21 29 (toB BB) V hrd (by rw [toB_length, hB21]) (by rw [toB_length, hB21]; decide) HKY.out
      exact hc.mono fun e w' h => ⟨by rw [h.1, ← hsl, hs8]; rfl, h.2⟩
    have S0 : Hid (W.cell? ⟨w.heap.size, 0, none⟩ = some (.int .u8 k0) ∧ W.cell? ⟨w.heap.size, 1, none⟩ = some (.int .u8 k1) ∧ W.cell? ⟨w.heap.size, 2, none⟩ = some (.int .u8 k2) ∧ W.cell? ⟨w.heap.size, 3, none⟩ = some (.int .u8 k3) ∧ W.cell? ⟨w.heap.size, 4, none⟩ = some (.int .u8 k4) ∧ W.cell? ⟨w.heap.size, 5, none⟩ = some (.int .u8 k5) ∧ W.cell? ⟨w.heap.size, 6, none⟩ = some (.int .u8 k6) ∧ W.cell? ⟨w.heap.size, 7, none⟩ = some (.int .u8 k7) ∧ Below W.heap.size W W) :=
      ⟨by rw [hK.cell]; rfl, by rw [hK.cell]; rfl, by rw [hK.cell]; rfl, by rw [hK.cell]; rfl, by rw [hK.cell]; rfl, by rw [hK.cell]; rfl, by rw [hK.cell]; rfl, by rw [hK.cell]; rfl, Below.refl _ _⟩
    have H7 := Lib.hid h7; have HR := Lib.hid hR; have HB := Lib.hid hb; have HKD := Lib.hid hKD
    have HBBL : Hid (BB.length = 21 ∧ sl.length = 8) := ⟨hB21, hsl8⟩
    have z7 : Hid (w1.heap.size < W.heap.size) := h7.lt
    clear h7 h8 hK hR hb hKD hB21 hBby hsl hsl8 hs8 HEB HKY HX HST HCT HLN l7 l8 lB lK lR lb
    go_upto_region 10 with fail
    go_cut [10] from 25 (fun s10 wx => ∃ g : Nat, s10 = .pointer (some ⟨g, 0, none⟩) ∧ Row wx g 57 (u8s [s0, s1, s2, s3, s4, s5, s6, s7]) ∧ W.heap.size ≤ g ∧ Below W.heap.size W wx)
    case first =>
      refine wp_region_noPanic ?_
      refine wp_region_held_drew (S := fun w' => w'.cell? ⟨w.heap.size, 0, none⟩ = some (.int .u8 k0) ∧ w'.cell? ⟨w.heap.size, 1, none⟩ = some (.int .u8 k1) ∧ w'.cell? ⟨w.heap.size, 2, none⟩ = some (.int .u8 k2) ∧ w'.cell? ⟨w.heap.size, 3, none⟩ = some (.int .u8 k3) ∧ w'.cell? ⟨w.heap.size, 4, none⟩ = some (.int .u8 k4) ∧ w'.cell? ⟨w.heap.size, 5, none⟩ = some (.int .u8 k5) ∧ w'.cell? ⟨w.heap.size, 6, none⟩ = some (.int .u8 k6) ∧ w'.cell? ⟨w.heap.size, 7, none⟩ = some (.int .u8 k7) ∧ Below W.heap.size W w') (by kernel_rfl) ?_ (fun hHeld => ?_)
      · exact keepRe S0.out (Below.refl _ _).drew
      refine wpAnyH_take (i := 0) (oi := ⟨some 25, _, _, _, _, _⟩) (v := ?_) rfl (by kernel_rfl) (by kernel_rfl) (by kernel_rfl) (fun _ _ _ h => h) (Or.inl ⟨by kernel_rfl, ?_⟩) hHeld ?_
      rotate_left
      · intro w1 hSw; (try dsimp only at hSw); go_simp <;> with_reducible rfl
      try simp only [Act.put, List.setIfInBounds_toArray, List.set_cons_zero, List.set_cons_succ]
      refine wpAnyH_take (i := 1) (oi := ⟨some 26, _, _, _, _, _⟩) (v := ?_) rfl (by kernel_rfl) (by kernel_rfl) (by kernel_rfl) (fun _ _ _ h => h) (Or.inl ⟨by kernel_rfl, ?_⟩) hHeld ?_
      rotate_left
      · intro w1 hSw; (try dsimp only at hSw); go_simp <;> with_reducible rfl
      try simp only [Act.put, List.setIfInBounds_toArray, List.set_cons_zero, List.set_cons_succ]
      refine wpAnyH_ready (rs := [2, 3]) (by kernel_rfl) (by simp) ?_
      refine AllReadyH.cons rfl (fun K hK => ?_) (AllReadyH.cons rfl (fun K hK => ?_) (AllReadyH.nil))
      ·
        go_simp
        go_at_call 63
        refine (HRD.out _ (lastRe hHeld)).mono ?_
        rintro e w2 ⟨rfl, hb2⟩
        have zb := (lastRe hHeld).trans (hb2.mono (lastRe hHeld).size)
        try go_simp
        refine hK.out _ _ ?_ (fun hHeld => ?_)
        · exact keepRe S0.out zb
        clear hK K
        try simp only [Act.put, List.setIfInBounds_toArray, List.set_cons_zero, List.set_cons_succ]
        refine wpAnyH_ready (rs := [3]) (by kernel_rfl) (by simp) ?_
        refine AllReadyH.cons rfl (fun K hK => ?_) (AllReadyH.nil)
        go_simp
        refine hK.out _ _ ?_ (fun hHeld => ?_)
        · exact keepRe S0.out ((lastRe hHeld).alloc (lastRe hHeld).size _)
        clear hK K
        try simp only [Act.put, List.setIfInBounds_toArray, List.set_cons_zero, List.set_cons_succ]
        refine wpAnyH_ready (rs := [4]) (by kernel_rfl) (by simp) ?_
        refine AllReadyH.cons rfl (fun K hK => ?_) (AllReadyH.nil)
        have hz := Row.new w2 57 (u8s [0, 0, 0, 0, 0, 0, 0, 0])
        have zg := zb.size
        refine step_store_row rfl 57 _ _ rfl w2.heap.size [.int .u8 s0, .int .u8 s1, .int .u8 s2, .int .u8 s3, .int .u8 s4, .int .u8 s5, .int .u8 s6, .int .u8 s7] rfl rfl 57 (u8s [0, 0, 0, 0, 0, 0, 0, 0]) hz (by kernel_rfl) rfl (by simp [Value.oneCell']) ?_
        refine hK.out _ _ ?_ (fun hHeld => ?_)
        · exact keepRe S0.out (Below.setRow (lastRe hHeld) zg _)
        clear hK K
        try simp only [Act.put, List.setIfInBounds_toArray, List.set_cons_zero, List.set_cons_succ]
        refine wpAnyH_done (by kernel_rfl) ?_ _
        refine NoPanic.normal ?_
        go_wp2_with fail
        go_meet
        exact ⟨w2.heap.size, rfl, hz.setRow _, zg, Below.setRow (zb.alloc zg _) zg _⟩
      ·
        go_simp
        refine hK.out _ _ ?_ (fun hHeld => ?_)
        · exact keepRe S0.out ((lastRe hHeld).alloc (lastRe hHeld).size _)
        clear hK K
        try simp only [Act.put, List.setIfInBounds_toArray, List.set_cons_zero, List.set_cons_succ]
        refine wpAnyH_ready (rs := [2]) (by kernel_rfl) (by simp) ?_
        refine AllReadyH.cons rfl (fun K hK => ?_) (AllReadyH.nil)
        go_simp
        go_at_call 63
        refine (HRD.out _ (lastRe hHeld)).mono ?_
        rintro e w2 ⟨rfl, hb2⟩
        have zb := (lastRe hHeld).trans (hb2.mono (lastRe hHeld).size)
        try go_simp
        refine hK.out _ _ ?_ (fun hHeld => ?_)
        · exact keepRe S0.out zb
        clear hK K
        try simp only [Act.put, List.setIfInBounds_toArray, List.set_cons_zero, List.set_cons_succ]
        refine wpAnyH_ready (rs := [4]) (by kernel_rfl) (by simp) ?_
        refine AllReadyH.cons rfl (fun K hK => ?_) (AllReadyH.nil)
        have hz : Row w2 W.heap.size 57 (u8s [0, 0, 0, 0, 0, 0, 0, 0]) := Row.old (w := (W.drew.alloc (.cells (u8s [0, 0, 0, 0, 0, 0, 0, 0]).toArray 57))) (Row.new W.drew 57 (u8s [0, 0, 0, 0, 0, 0, 0, 0])) hb2
        refine step_store_row rfl 57 _ _ rfl W.heap.size [.int .u8 s0, .int .u8 s1, .int .u8 s2, .int .u8 s3, .int .u8 s4, .int .u8 s5, .int .u8 s6, .int .u8 s7] rfl rfl 57 (u8s [0, 0, 0, 0, 0, 0, 0, 0]) hz (by kernel_rfl) rfl (by simp [Value.oneCell']) ?_
        refine hK.out _ _ ?_ (fun hHeld => ?_)
        · exact keepRe S0.out (Below.setRow (lastRe hHeld) (Nat.le_refl _) _)
        clear hK K
        try simp only [Act.put, List.setIfInBounds_toArray, List.set_cons_zero, List.set_cons_succ]
        refine wpAnyH_done (by kernel_rfl) ?_ _
        refine NoPanic.normal ?_
        go_wp2_with fail
        go_meet
        exact ⟨W.heap.size, rfl, hz.setRow _, Nat.le_refl _, Below.setRow zb (Nat.le_refl _) _⟩
    case rest =>
      obtain ⟨g, rfl, hrow, hg, hbw⟩ := hcut
      have HG := Lib.hid hrow
      have H7c := Lib.hid (H7.out.old hbw)
      have HRc := Lib.hid (HR.out.old hbw)
      have HBc := Lib.hid (HB.out.trans (hbw.mono HB.out.size))
      have HKc : Hid (wc.heap[D]? = some (.deferred (some []))) := (hbw.block D (Array.getElem?_eq_some_iff.1 HKD.out).1).trans HKD.out
      have HFB : Hid ((u8s (fillB BB)).length = 29 ∧ splice (u8s (fillB BB)) 21 (u8s [s0, s1, s2, s3, s4, s5, s6, s7]) = u8s (BB ++ [s0, s1, s2, s3, s4, s5, s6, s7])) := by
        refine ⟨by rw [u8s_length, fillB_length (by rw [HBBL.out.1]; decide)], ?_⟩
        have hl := HBBL.out.1
        unfold splice fillB
        rw [u8s_app, u8s_app, List.take_append_of_le_length (by rw [u8s_length, hl]; exact Nat.le_refl _), List.take_of_length_le (by rw [u8s_length, hl]; exact Nat.le_refl _), List.drop_of_length_le (by simp [u8s, hl]), List.append_nil]
      obtain ⟨EE, hEE⟩ : ∃ EE, EE = BB ++ [s0, s1, s2, s3, s4, s5, s6, s7] := ⟨_, rfl⟩
      have HEE : Hid (u8s EE = splice (u8s (fillB BB)) 21 (u8s [s0, s1, s2, s3, s4, s5, s6, s7])) := by unfold Hid; rw [HFB.out.2, hEE]
      have HE2 : Hid (encB [k0, k1, k2, k3, k4, k5, k6, k7] st ct ln [x0, x1, x2, x3, x4, x5, x6, x7] = EE ∧ EE.length = 29) := by refine ⟨by rw [HEB2.out, hEE], by rw [hEE]; simp [HBBL.out.1]⟩
      have HSRC : Hid (∀ j v, (u8s [s0, s1, s2, s3, s4, s5, s6, s7])[j]? = some v → wc.drew.cell? ((⟨g, 0, none⟩ : Addr).add j) = some v) := fun j v hv => by
        rw [add0]; exact (hrow.cell j).trans hv
      clear hEE
      have HG7 : Hid (w.heap.size ≤ w1.heap.size) := by unfold Hid; omega
      clear hrow hg hbw H7 HR HB HKD
      go_upto_region 11 with fail
      refine wp_region_noPanic ?_
      refine wp_region_held_drew (S := fun _ => True) (by kernel_rfl) ?_ (fun hHeld => ?_)
      · trivial
      refine wpAnyH_take (i := 0) (oi := ⟨some 28, _, _, _, _, _⟩) (v := ?_) rfl (by kernel_rfl) (by kernel_rfl) (by kernel_rfl) (fun _ _ _ h => h) (Or.inl ⟨by kernel_rfl, ?_⟩) hHeld ?_
      rotate_left
      · intro w1 hSw; (try dsimp only at hSw); go_simp <;> with_reducible rfl
      try simp only [Act.put, List.setIfInBounds_toArray, List.set_cons_zero, List.set_cons_succ]
      refine wpAnyH_take (i := 1) (oi := ⟨some 29, _, _, _, _, _⟩) (v := ?_) rfl (by kernel_rfl) (by kernel_rfl) (by kernel_rfl) (fun _ _ _ h => h) (Or.inl ⟨by kernel_rfl, ?_⟩) hHeld ?_
      rotate_left
      · intro w1 hSw; (try dsimp only at hSw); go_simp <;> with_reducible rfl
      try simp only [Act.put, List.setIfInBounds_toArray, List.set_cons_zero, List.set_cons_succ]
      refine wpAnyH_ready (rs := [2]) (by kernel_rfl) (by simp) ?_
      refine AllReadyH.cons rfl (fun K hK => ?_) AllReadyH.nil
      refine step_copy_row rfl (.tmp 28) (.tmp 29) 22 22 rfl 5 Tryz.underlying22 (by kernel_rfl) w1.heap.size 21 8 8 ⟨g, 0, none⟩ 8 8 (by simp [Act.eval, Act.put]) (by simp [Act.eval, Act.put]) (u8s (fillB BB)) 68 H7c.out (u8s [s0, s1, s2, s3, s4, s5, s6, s7]) rfl HSRC.out (by rw [HFB.out.1]; exact Nat.le_refl 29) (u8s_one _) (u8s EE) HEE.out ?_
      refine hK.out _ _ ?_ (fun hHeld => ?_)
      · trivial
      clear hK K
      try simp only [Act.put, List.setIfInBounds_toArray, List.set_cons_zero, List.set_cons_succ]
      refine wpAnyH_done (by kernel_rfl) ?_ _
      refine NoPanic.normal ?_
      have r7 : Row (wc.drew.setRow w1.heap.size (u8s EE).toArray) w1.heap.size 68 (u8s EE) := Row.setRow (w := wc.drew) H7c.out _
      have rR : Row (wc.drew.setRow w1.heap.size (u8s EE).toArray) (w.heap.size + 1 + 1) 68 (u8s z29) := Row.farRow (w := wc.drew) HRc.out (by omega) _
      have rD : (wc.drew.setRow w1.heap.size (u8s EE).toArray).heap[D]? = some (.deferred (some [])) := (setRow_other wc.drew w1.heap.size _ D (by omega)).trans HKc.out
      have rB : Below w.heap.size w (wc.drew.setRow w1.heap.size (u8s EE).toArray) := Below.setRow HBc.out.drew HG7.out _
      have R7 := Lib.hid r7; have RR := Lib.hid rR; have RD := Lib.hid rD; have RB := Lib.hid rB
      clear r7 rR rD rB H7c HRc HKc HBc HSRC HEE HFB HG
      have hie : (u8s EE).toArray.size = 29 := by simp [u8s, HE2.out.2]
      have Hie := Lib.hid hie
      clear hie
      go_wp2_with (first | (refine wpList_load_row rfl 68 _ rfl w1.heap.size rfl 68 (u8s EE).toArray (0, 0) _ R7.out Tryz.underlying68 rfl ?_ ?_; (rw [info51, Hie.out])) | (refine wpList_store_row rfl 68 _ _ rfl (w.heap.size + 1 + 1) (u8s EE).toArray rfl rfl 68 _ RR.out ?_ ?_ ?_ ?_; (rw [info51, Hie.out]); (simp [u8s, z29, HE2.out.2]); (simp [u8s, Value.oneCell'])))
      have hD2 : ((wc.drew.setRow w1.heap.size (u8s EE).toArray).setRow (w.heap.size + 1 + 1) (u8s EE).toArray).heap[D]? = some (.deferred (some [])) := (setRow_other _ _ _ D (by omega)).trans RD.out
      have hrow : Row ((wc.drew.setRow w1.heap.size (u8s EE).toArray).setRow (w.heap.size + 1 + 1) (u8s EE).toArray) (w.heap.size + 1 + 1) 68 (u8s EE) := RR.out.setRow _
      have hrow2 : Row (((wc.drew.setRow w1.heap.size (u8s EE).toArray).setRow (w.heap.size + 1 + 1) (u8s EE).toArray).putObj D (.deferred none)) (w.heap.size + 1 + 1) 68 (u8s EE) := hrow.keptN (grownBy_putObj' _ D (.deferred none)) (fun r e => by cases e; exact ⟨_, hD2, rfl⟩)
      refine ⟨by simp, .inl ⟨_, _, rfl, run_takeDeferred hD2, ?_⟩⟩
      refine ⟨_, results_row_tmp rfl _ _ (w.heap.size + 1 + 1) 68 (u8s EE).toArray (0, 0) _ rfl hrow2 Tryz.underlying68 rfl (by rw [info51, Hie.out]), ?_, ?_⟩
      · rw [HE2.out.1]; rfl
      · exact (Below.setRow RB.out (by omega) _).trans (belowK_b (w := w) (Nat.le_refl _) _ D _ _ (by omega) hD2 rfl rfl)
  case stop =>
    rintro D c pre W _ _ h _
    exact h.elim
end Go.Proofs.YtlflfieknibgmaaGreatDoor
