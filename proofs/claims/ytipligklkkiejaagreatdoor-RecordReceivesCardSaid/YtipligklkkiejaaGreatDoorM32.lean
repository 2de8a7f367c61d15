import Derived.Test.YtipligklkkiejaaGreatDoorM15
import Derived.Test.YtipligklkkiejaaGreatDoorM31
import Derived.Test.YtipligklkkiejaaGreatDoorM11
/- The law of packets, walked. -/
namespace Go.Proofs.YtipligklkkiejaaGreatDoor
set_option linter.all false
open Go.RowKit Go.Fl
set_option linter.unusedVariables false
set_option linter.unusedSimpArgs false

theorem ex_row {P : Program} {o : Oper} {a : Act} {w : World} (ty : TypeId) (x : Operand) (ho : o.op = .load ty x) (g : Nat) (hx : a.eval x = .pointer (some ⟨g, 0, none⟩)) (t : TypeId) (cs : List Value) (d : TypeDesc)
    (hu : P.underlying ty = some d) (hd : (match d with | .struct _ | .array _ _ => true | _ => false) = true) (hi : (P.info? ty).map (·.size) = some cs.length) (hr : Row w g t cs) : (execOp a.eval o).run P w = .ok (.value (.agg cs.toArray)) w := by
  unfold execOp
  simp only [ho, hx, Instr.loadAt, Instr.sureAddr, Sem.run_bind, Sem.run_pure, Result.andThen_ok, run_loadVar_row w g t ty cs.toArray (0, 0) d hr hu hd (by simpa using hi)]
theorem ex_eql {P : Program} {o : Oper} {a : Act} {w : World} (t t2 : TypeId) (x y : Operand) (ho : o.op = .binOp .eql t x y t2) (xs ys : Array Value) (hx : a.eval x = .agg xs) (hy : a.eval y = .agg ys) (hg : P.eqGuardType P.depth t = false) (b : Bool)
    (h : (Op.equalIn 10000 t (.agg xs) (.agg ys)).run P w = .ok b w) : (execOp a.eval o).run P w = .ok (.value (.bool b)) w := by
  unfold execOp
  simp [ho, hx, hy, eqGuard, hg, run_eql_struct, h, Sem.run_bind, Sem.run_pure, Result.andThen_ok]

theorem genS {p : World → Prop} {w : World} (S : World → Prop) (h : S w) (hp : ∀ W, S W → p W) : p w := hp w h
/-- the law's parameters, where they lie -/
def PkS (w : World) (LK LP LB : List Value) (W : World) : Prop := Row W w.heap.size 23 LK ∧ Row W (w.heap.size + 1) 27 LP ∧ Row W (w.heap.size + 1 + 1) 28 LB ∧ Below w.heap.size w W
theorem PkS.keep {w W W' : World} {LK LP LB : List Value} (h : PkS w LK LP LB W) (hb : Below W.heap.size W W') : PkS w LK LP LB W' :=
  ⟨h.1.old hb, h.2.1.old hb, h.2.2.1.old hb, h.2.2.2.trans (hb.mono h.2.2.2.size)⟩
theorem new_below (w : World) (o : Obj) (cs : Array Value) : Below w.heap.size w ((w.alloc o).setRow w.heap.size cs) := Below.setRow ((Below.refl _ _).alloc (Nat.le_refl _) _) (Nat.le_refl _) _
theorem new_row (w : World) (t : TypeId) (vs us : List Value) : Row ((w.alloc (.cells vs.toArray t)).setRow w.heap.size us.toArray) w.heap.size t us := (Row.new w t vs).setRow _

set_option maxRecDepth 100000 in
set_option maxHeartbeats 1000000 in
theorem packets_walk (haw : AwakeOk) (LK LP LA LC LS : List Value) (bs : List UInt8) (EE DE : Int) (w : World) (haW : Aw w)
    (lK : LK.length = 8) (lP : LP.length = 11) (lB : (byts bs).length = 29) (lA : LA.length = 29) (lC : LC.length = 11) (lS : LS.length = 8)
    (oA : ∀ v ∈ LA, v.oneCell' = true) (oC : ∀ v ∈ LC, v.oneCell' = true) (oS : ∀ v ∈ LS, v.oneCell' = true)
    (hEnc : ∀ W, Calls Tryz.prog 6 #[.agg LK.toArray, .agg LP.toArray] W fun e w' => e = .returned (.tuple #[.agg LA.toArray, .int .i64 EE]) ∧ Below W.heap.size W w')
    (hDec : ∀ W, Calls Tryz.prog 7 #[.agg LK.toArray, .agg (byts bs).toArray] W fun e w' => e = .returned (.tuple #[.agg LC.toArray, .int .i64 DE]) ∧ Below W.heap.size W w')
    (hBy : ∀ W b, Rd W (some ⟨b, 0, none⟩) (byts bs) → Calls Tryz.prog 9 #[.slice (some ⟨b, 0, none⟩) 29 29] W fun e w' => ∃ A c, e = .returned (.slice A 29 c) ∧ Rd w' A (byts bs) ∧ Below W.heap.size W w')
    (hSe : ∀ W A c, Rd W A (byts bs) → Calls Tryz.prog 8 #[.agg LK.toArray, .slice A 29 c] W fun e w' => e = .returned (.tuple #[.agg LS.toArray, .int .i64 0]) ∧ Below W.heap.size W w')
    (hCq : ∀ W, Calls Tryz.prog 10 #[.agg LP.toArray] W fun e w' => e = .returned (.int .i64 EE) ∧ Below W.heap.size W w')
    (hEr : EE = 0 → ∀ W, Calls Tryz.prog 11 #[.agg LK.toArray, .agg LP.toArray] W fun e w' => e = .returned (.agg LA.toArray) ∧ Below W.heap.size W w')
    (hZ : EE ≠ 0 → LA = u8s z29)
    (hDr : ∀ W, Calls Tryz.prog 12 #[.agg LK.toArray, .agg (byts bs).toArray] W fun e w' => e = .returned (.tuple #[.agg LC.toArray, .int .i64 DE]) ∧ Below W.heap.size W w')
    (hSr : ∀ W A c, Rd W A (byts bs) → Calls Tryz.prog 13 #[.agg LK.toArray, .slice A 29 c] W fun e w' => e = .returned (.agg LS.toArray) ∧ Below W.heap.size W w')
    (eA : ∀ W, (Op.equalIn 10000 28 (.agg LA.toArray) (.agg LA.toArray)).run Tryz.prog W = .ok true W)
    (eC : ∀ W, (Op.equalIn 10000 27 (.agg LC.toArray) (.agg LC.toArray)).run Tryz.prog W = .ok true W)
    (eS : ∀ W, (Op.equalIn 10000 23 (.agg LS.toArray) (.agg LS.toArray)).run Tryz.prog W = .ok true W) :
    Calls Tryz.prog 3 #[.agg LK.toArray, .agg LP.toArray, .agg (byts bs).toArray] w fun e w' => e = .returned (.bool true) ∧ Below w.heap.size w w' := by
  have HENC := Lib.hid hEnc; have HDEC := Lib.hid hDec; have HBY := Lib.hid hBy; have HSE := Lib.hid hSe; have HCQ := Lib.hid hCq; have HER := Lib.hid hEr; have HZ := Lib.hid hZ; have HDR := Lib.hid hDr; have HSR := Lib.hid hSr
  have HEA := Lib.hid eA; have HEC := Lib.hid eC; have HES := Lib.hid eS; have HOA := Lib.hid oA; have HOC := Lib.hid oC; have HOS := Lib.hid oS; have HAW := Lib.hid haW
  have IK : Hid (some LK.length = some 8 ∧ LK.toArray.size = 8) := ⟨by rw [lK], by simp [lK]⟩
  have IP : Hid (some LP.length = some 11 ∧ LP.toArray.size = 11) := ⟨by rw [lP], by simp [lP]⟩
  have IB : Hid (some (byts bs).length = some 29 ∧ (byts bs).toArray.size = 29) := ⟨by rw [lB], by simp [lB]⟩
  have IA : Hid (LA.length = 29 ∧ LA.toArray.size = 29) := ⟨lA, by simp [lA]⟩
  have IC : Hid (LC.length = 11 ∧ LC.toArray.size = 11) := ⟨lC, by simp [lC]⟩
  have I29 : Hid ((u8s z29).length = 29 ∧ (u8s z29).toArray.size = 29) := ⟨rfl, rfl⟩
  have O29 : Hid (∀ v ∈ u8s z29, v.oneCell' = true) := u8s_one _
  have IS : Hid (LS.length = 8 ∧ LS.toArray.size = 8) := ⟨lS, by simp [lS]⟩
  have R0 := Row.new w 23 LK
  have R1 := Row.new (w.alloc (.cells LK.toArray 23)) 27 LP
  have R2 := Row.new ((w.alloc (.cells LK.toArray 23)).alloc (.cells LP.toArray 27)) 28 (byts bs)
  rw [World.size_alloc] at R1
  rw [World.size_alloc, World.size_alloc] at R2
  have S0 : PkS w LK LP (byts bs) (((w.alloc (.cells LK.toArray 23)).alloc (.cells LP.toArray 27)).alloc (.cells (byts bs).toArray 28)) :=
    ⟨(R0.alloc _).alloc _, R1.alloc _, R2, (((Below.refl _ _).alloc (Nat.le_refl _) _).alloc (by simp) _).alloc (by simp; omega) _⟩
  have HS0 := Lib.hid S0
  clear hEnc hDec hBy hSe hCq hEr hZ hDr hSr eA eC eS oA oC oS lK lP lB lA lC lS R0 R1 R2 S0 haW
  go_enter Tryz.func3, Tryz.ntmps3
  go_upto_region 1 with fail
  refine genS (PkS w LK LP (byts bs)) HS0.out ?_
  clear HS0
  intro W1 s1
  have HS1 := Lib.hid s1
  clear s1
  go_upto_region 2 with (first | (refine wpList_load_row rfl 23 _ rfl w.heap.size rfl 23 LK.toArray (0, 0) _ HS1.out.1 Tryz.underlying23 rfl ?_ ?_; (rw [info47, IK.out.2])) | (refine wpList_load_row rfl 27 _ rfl (w.heap.size + 1) rfl 27 LP.toArray (0, 0) _ HS1.out.2.1 Tryz.underlying27 rfl ?_ ?_; (rw [infoRP, IP.out.2])) | (go_at_call 6; refine (HENC.out _).mono ?_; rintro e w1 ⟨rfl, hb1⟩) | (refine wpList_store_row rfl 28 _ _ rfl w1.heap.size LA.toArray rfl rfl 28 _ (Row.new w1 28 (u8s z29)) ?_ ?_ ?_ ?_; (rw [info51, IA.out.2]); (rw [IA.out.2]; rfl); (simpa using HOA.out)))
  have k2 : PkS w LK LP (byts bs) ((w1.alloc (.cells (u8s z29).toArray 28)).setRow w1.heap.size LA.toArray) := (HS1.out.keep hb1).keep (new_below _ _ _)
  refine genS (fun V => PkS w LK LP (byts bs) V ∧ Row V w1.heap.size 28 LA) ⟨k2, new_row w1 28 (u8s z29) LA⟩ ?_
  clear k2 hb1 HS1 HENC
  rintro W2 ⟨s2, r7⟩
  have HS2 := Lib.hid s2; have H7 := Lib.hid r7
  clear s2 r7
  go_upto_region 3 with (first | (refine wpList_load_row rfl 23 _ rfl w.heap.size rfl 23 LK.toArray (0, 0) _ HS2.out.1 Tryz.underlying23 rfl ?_ ?_; (rw [info47, IK.out.2])) | (refine wpList_load_row rfl 28 _ rfl (w.heap.size + 1 + 1) rfl 28 (byts bs).toArray (0, 0) _ HS2.out.2.2.1 Tryz.underlying28 rfl ?_ ?_; (rw [info51, IB.out.2])) | (go_at_call 7; refine (HDEC.out _).mono ?_; rintro e w2 ⟨rfl, hb2⟩) | (refine wpList_store_row rfl 32 _ _ rfl w2.heap.size LC.toArray rfl rfl 32 _ (Row.new w2 32 zero11) ?_ ?_ ?_ ?_; (rw [info54, IC.out.2]); (rw [IC.out.2]; rfl); (simpa using HOC.out)))
  have k2 : PkS w LK LP (byts bs) ((w2.alloc (.cells zero11.toArray 32)).setRow w2.heap.size LC.toArray) := (HS2.out.keep hb2).keep (new_below _ _ _)
  refine genS (fun V => PkS w LK LP (byts bs) V ∧ Row V w1.heap.size 28 LA ∧ Row V w2.heap.size 32 LC) ⟨k2, (H7.out.old hb2).old (new_below _ _ _), new_row w2 32 zero11 LC⟩ ?_
  clear k2 hb2 HS2 HDEC H7
  rintro W3 ⟨s2, r7, r9⟩
  have HS3 := Lib.hid s2; have H7 := Lib.hid r7; have H9 := Lib.hid r9
  clear s2 r7 r9
  go_cut [11, 12] from 30 (fun s11 s12 wx => ∃ g : Nat, s11 = .pointer (some ⟨g, 0, none⟩) ∧ s12 = .int .i64 0 ∧ Row wx g 23 LS ∧ W3.heap.size ≤ g ∧ Below W3.heap.size W3 wx)
  case first =>
    clear HCQ HER HZ HDR HSR HEA HEC HES HOA HOC HAW H7 H9
    refine wp_region_held_drew (S := fun V => Below W3.heap.size W3 V) (by kernel_rfl) ?_ (fun hHeld => ?_)
    · exact (Below.refl _ _).drew
    refine wpAnyH_take (i := 0) (oi := ⟨some 30, _, _, _, _, _⟩) (v := .agg LK.toArray) rfl (by kernel_rfl) (by kernel_rfl) (by kernel_rfl) (fun _ _ _ h => h) (Or.inl ⟨by kernel_rfl, fun V hSw => ex_row 23 _ rfl w.heap.size rfl 23 LK _ Tryz.underlying23 rfl (by rw [info47, IK.out.1]) (HS3.out.keep hSw).1⟩) hHeld ?_
    try simp only [Act.put, List.setIfInBounds_toArray, List.set_cons_zero, List.set_cons_succ]
    refine wpAnyH_take (i := 1) (oi := ⟨some 31, _, _, _, _, _⟩) (v := ?_) rfl (by kernel_rfl) (by kernel_rfl) (by kernel_rfl) (fun _ _ _ h => h) (Or.inl ⟨by kernel_rfl, ?_⟩) hHeld ?_
    rotate_left
    · intro w1 hSw; (try dsimp only at hSw); go_simp <;> with_reducible rfl
    try simp only [Act.put, List.setIfInBounds_toArray, List.set_cons_zero, List.set_cons_succ]
    refine wpAnyH_ready (rs := [2, 7]) (by kernel_rfl) (by simp) ?_
    refine AllReadyH.cons rfl (fun K hK => ?_) (AllReadyH.cons rfl (fun K hK => ?_) (AllReadyH.nil))
    ·
      go_simp
      go_at_call 9
      refine (HBY.out _ _ (Rd.row (HS3.out.keep hHeld).2.2.1)).mono ?_
      rintro e w4 ⟨A4, c4, rfl, hr4, hb4⟩
      have z4 := (hHeld.trans (hb4.mono hHeld.size)).size
      try go_simp
      refine hK.out _ _ ?_ (fun hHeld => ?_)
      · exact hHeld.trans (hb4.mono hHeld.size)
      clear hK K
      try simp only [Act.put, List.setIfInBounds_toArray, List.set_cons_zero, List.set_cons_succ]
      refine wpAnyH_ready (rs := [3, 7]) (by kernel_rfl) (by simp) ?_
      refine AllReadyH.cons rfl (fun K hK => ?_) (AllReadyH.cons rfl (fun K hK => ?_) (AllReadyH.nil))
      ·
        go_simp
        go_at_call 8
        refine (HSE.out _ _ _ (by first | exact hr4 | exact hr4.below ((Below.refl _ _).alloc (Nat.le_refl _) _))).mono ?_
        rintro e w5 ⟨rfl, hb5⟩
        have z5 := (hHeld.trans (hb5.mono hHeld.size)).size
        try go_simp
        refine hK.out _ _ ?_ (fun hHeld => ?_)
        · exact hHeld.trans (hb5.mono hHeld.size)
        clear hK K
        try simp only [Act.put, List.setIfInBounds_toArray, List.set_cons_zero, List.set_cons_succ]
        refine wpAnyH_take (i := 4) (oi := ⟨some 29, _, _, _, _, _⟩) (v := ?_) rfl (by kernel_rfl) (by kernel_rfl) (by kernel_rfl) (fun _ _ _ h => h) (Or.inl ⟨by kernel_rfl, ?_⟩) hHeld ?_
        rotate_left
        · intro w1 hSw; (try dsimp only at hSw); go_simp <;> with_reducible rfl
        try simp only [Act.put, List.setIfInBounds_toArray, List.set_cons_zero, List.set_cons_succ]
        refine wpAnyH_take (i := 5) (oi := ⟨some 34, _, _, _, _, _⟩) (v := ?_) rfl (by kernel_rfl) (by kernel_rfl) (by kernel_rfl) (fun _ _ _ h => h) (Or.inl ⟨by kernel_rfl, ?_⟩) hHeld ?_
        rotate_left
        · intro w1 hSw; (try dsimp only at hSw); go_simp <;> with_reducible rfl
        try simp only [Act.put, List.setIfInBounds_toArray, List.set_cons_zero, List.set_cons_succ]
        refine wpAnyH_take (i := 6) (oi := ⟨some 35, _, _, _, _, _⟩) (v := ?_) rfl (by kernel_rfl) (by kernel_rfl) (by kernel_rfl) (fun _ _ _ h => h) (Or.inl ⟨by kernel_rfl, ?_⟩) hHeld ?_
        rotate_left
        · intro w1 hSw; (try dsimp only at hSw); go_simp <;> with_reducible rfl
        try simp only [Act.put, List.setIfInBounds_toArray, List.set_cons_zero, List.set_cons_succ]
        refine wpAnyH_ready (rs := [7]) (by kernel_rfl) (by simp) ?_
        refine AllReadyH.cons rfl (fun K hK => ?_) (AllReadyH.nil)
        go_simp
        refine hK.out _ _ ?_ (fun hHeld => ?_)
        · exact hHeld.alloc hHeld.size _
        clear hK K
        try simp only [Act.put, List.setIfInBounds_toArray, List.set_cons_zero, List.set_cons_succ]
        refine wpAnyH_ready (rs := [8]) (by kernel_rfl) (by simp) ?_
        refine AllReadyH.cons rfl (fun K hK => ?_) (AllReadyH.nil)
        have hz := Row.new w5 23 (u8s [0, 0, 0, 0, 0, 0, 0, 0])
        have hg : W3.heap.size ≤ w5.heap.size := z5
        refine step_store_row rfl 23 _ _ rfl w5.heap.size LS rfl rfl 23 (u8s [0, 0, 0, 0, 0, 0, 0, 0]) hz (by rw [info47, IS.out.1]) (by rw [IS.out.1]; rfl) HOS.out ?_
        refine hK.out _ _ ?_ (fun hHeld => ?_)
        · exact Below.setRow hHeld hg _
        clear hK K
        try simp only [Act.put, List.setIfInBounds_toArray, List.set_cons_zero, List.set_cons_succ]
        refine wpAnyH_take (i := 9) (oi := ⟨some 12, _, _, _, _, _⟩) (v := ?_) rfl (by kernel_rfl) (by kernel_rfl) (by kernel_rfl) (fun _ _ _ h => h) (Or.inl ⟨by kernel_rfl, ?_⟩) hHeld ?_
        rotate_left
        · intro w1 hSw; (try dsimp only at hSw); go_simp <;> with_reducible rfl
        try simp only [Act.put, List.setIfInBounds_toArray, List.set_cons_zero, List.set_cons_succ]
        refine wpAnyH_done (by kernel_rfl) ?_ _
        go_wp2_with fail
        go_meet
        exact ⟨_, rfl, rfl, hz.setRow _, hg, hHeld⟩
      ·
        go_simp
        refine hK.out _ _ ?_ (fun hHeld => ?_)
        · exact hHeld.alloc hHeld.size _
        clear hK K
        try simp only [Act.put, List.setIfInBounds_toArray, List.set_cons_zero, List.set_cons_succ]
        refine wpAnyH_ready (rs := [3]) (by kernel_rfl) (by simp) ?_
        refine AllReadyH.cons rfl (fun K hK => ?_) (AllReadyH.nil)
        go_simp
        go_at_call 8
        refine (HSE.out _ _ _ (by first | exact hr4 | exact hr4.below ((Below.refl _ _).alloc (Nat.le_refl _) _))).mono ?_
        rintro e w5 ⟨rfl, hb5⟩
        have z5 := (hHeld.trans (hb5.mono hHeld.size)).size
        try go_simp
        refine hK.out _ _ ?_ (fun hHeld => ?_)
        · exact hHeld.trans (hb5.mono hHeld.size)
        clear hK K
        try simp only [Act.put, List.setIfInBounds_toArray, List.set_cons_zero, List.set_cons_succ]
        refine wpAnyH_take (i := 4) (oi := ⟨some 29, _, _, _, _, _⟩) (v := ?_) rfl (by kernel_rfl) (by kernel_rfl) (by kernel_rfl) (fun _ _ _ h => h) (Or.inl ⟨by kernel_rfl, ?_⟩) hHeld ?_
        rotate_left
        · intro w1 hSw; (try dsimp only at hSw); go_simp <;> with_reducible rfl
        try simp only [Act.put, List.setIfInBounds_toArray, List.set_cons_zero, List.set_cons_succ]
        refine wpAnyH_take (i := 5) (oi := ⟨some 34, _, _, _, _, _⟩) (v := ?_) rfl (by kernel_rfl) (by kernel_rfl) (by kernel_rfl) (fun _ _ _ h => h) (Or.inl ⟨by kernel_rfl, ?_⟩) hHeld ?_
        rotate_left
        · intro w1 hSw; (try dsimp only at hSw); go_simp <;> with_reducible rfl
        try simp only [Act.put, List.setIfInBounds_toArray, List.set_cons_zero, List.set_cons_succ]
        refine wpAnyH_take (i := 6) (oi := ⟨some 35, _, _, _, _, _⟩) (v := ?_) rfl (by kernel_rfl) (by kernel_rfl) (by kernel_rfl) (fun _ _ _ h => h) (Or.inl ⟨by kernel_rfl, ?_⟩) hHeld ?_
        rotate_left
        · intro w1 hSw; (try dsimp only at hSw); go_simp <;> with_reducible rfl
        try simp only [Act.put, List.setIfInBounds_toArray, List.set_cons_zero, List.set_cons_succ]
        refine wpAnyH_ready (rs := [8]) (by kernel_rfl) (by simp) ?_
        refine AllReadyH.cons rfl (fun K hK => ?_) (AllReadyH.nil)
        have hz := (Row.new w4 23 (u8s [0, 0, 0, 0, 0, 0, 0, 0])).old hb5
        have hg : W3.heap.size ≤ w4.heap.size := z4
        refine step_store_row rfl 23 _ _ rfl w4.heap.size LS rfl rfl 23 (u8s [0, 0, 0, 0, 0, 0, 0, 0]) hz (by rw [info47, IS.out.1]) (by rw [IS.out.1]; rfl) HOS.out ?_
        refine hK.out _ _ ?_ (fun hHeld => ?_)
        · exact Below.setRow hHeld hg _
        clear hK K
        try simp only [Act.put, List.setIfInBounds_toArray, List.set_cons_zero, List.set_cons_succ]
        refine wpAnyH_take (i := 9) (oi := ⟨some 12, _, _, _, _, _⟩) (v := ?_) rfl (by kernel_rfl) (by kernel_rfl) (by kernel_rfl) (fun _ _ _ h => h) (Or.inl ⟨by kernel_rfl, ?_⟩) hHeld ?_
        rotate_left
        · intro w1 hSw; (try dsimp only at hSw); go_simp <;> with_reducible rfl
        try simp only [Act.put, List.setIfInBounds_toArray, List.set_cons_zero, List.set_cons_succ]
        refine wpAnyH_done (by kernel_rfl) ?_ _
        go_wp2_with fail
        go_meet
        exact ⟨_, rfl, rfl, hz.setRow _, hg, hHeld⟩
    ·
      go_simp
      refine hK.out _ _ ?_ (fun hHeld => ?_)
      · exact hHeld.alloc hHeld.size _
      clear hK K
      try simp only [Act.put, List.setIfInBounds_toArray, List.set_cons_zero, List.set_cons_succ]
      refine wpAnyH_ready (rs := [2]) (by kernel_rfl) (by simp) ?_
      refine AllReadyH.cons rfl (fun K hK => ?_) (AllReadyH.nil)
      go_simp
      go_at_call 9
      refine (HBY.out _ _ (Rd.row (HS3.out.keep hHeld).2.2.1)).mono ?_
      rintro e w4 ⟨A4, c4, rfl, hr4, hb4⟩
      have z4 := (hHeld.trans (hb4.mono hHeld.size)).size
      try go_simp
      refine hK.out _ _ ?_ (fun hHeld => ?_)
      · exact hHeld.trans (hb4.mono hHeld.size)
      clear hK K
      try simp only [Act.put, List.setIfInBounds_toArray, List.set_cons_zero, List.set_cons_succ]
      refine wpAnyH_ready (rs := [3]) (by kernel_rfl) (by simp) ?_
      refine AllReadyH.cons rfl (fun K hK => ?_) (AllReadyH.nil)
      go_simp
      go_at_call 8
      refine (HSE.out _ _ _ (by first | exact hr4 | exact hr4.below ((Below.refl _ _).alloc (Nat.le_refl _) _))).mono ?_
      rintro e w5 ⟨rfl, hb5⟩
      have z5 := (hHeld.trans (hb5.mono hHeld.size)).size
      try go_simp
      refine hK.out _ _ ?_ (fun hHeld => ?_)
      · exact hHeld.trans (hb5.mono hHeld.size)
      clear hK K
      try simp only [Act.put, List.setIfInBounds_toArray, List.set_cons_zero, List.set_cons_succ]
      refine wpAnyH_take (i := 4) (oi := ⟨some 29, _, _, _, _, _⟩) (v := ?_) rfl (by kernel_rfl) (by kernel_rfl) (by kernel_rfl) (fun _ _ _ h => h) (Or.inl ⟨by kernel_rfl, ?_⟩) hHeld ?_
      rotate_left
      · intro w1 hSw; (try dsimp only at hSw); go_simp <;> with_reducible rfl
      try simp only [Act.put, List.setIfInBounds_toArray, List.set_cons_zero, List.set_cons_succ]
      refine wpAnyH_take (i := 5) (oi := ⟨some 34, _, _, _, _, _⟩) (v := ?_) rfl (by kernel_rfl) (by kernel_rfl) (by kernel_rfl) (fun _ _ _ h => h) (Or.inl ⟨by kernel_rfl, ?_⟩) hHeld ?_
      rotate_left
      · intro w1 hSw; (try dsimp only at hSw); go_simp <;> with_reducible rfl
      try simp only [Act.put, List.setIfInBounds_toArray, List.set_cons_zero, List.set_cons_succ]
      refine wpAnyH_take (i := 6) (oi := ⟨some 35, _, _, _, _, _⟩) (v := ?_) rfl (by kernel_rfl) (by kernel_rfl) (by kernel_rfl) (fun _ _ _ h => h) (Or.inl ⟨by kernel_rfl, ?_⟩) hHeld ?_
      rotate_left
      · intro w1 hSw; (try dsimp only at hSw); go_simp <;> with_reducible rfl
      try simp only [Act.put, List.setIfInBounds_toArray, List.set_cons_zero, List.set_cons_succ]
      refine wpAnyH_ready (rs := [8]) (by kernel_rfl) (by simp) ?_
      refine AllReadyH.cons rfl (fun K hK => ?_) (AllReadyH.nil)
      have hz := ((Row.new W3.drew 23 (u8s [0, 0, 0, 0, 0, 0, 0, 0])).old hb4).old hb5
      have hg : W3.heap.size ≤ W3.heap.size := Nat.le_refl _
      refine step_store_row rfl 23 _ _ rfl W3.heap.size LS rfl rfl 23 (u8s [0, 0, 0, 0, 0, 0, 0, 0]) hz (by rw [info47, IS.out.1]) (by rw [IS.out.1]; rfl) HOS.out ?_
      refine hK.out _ _ ?_ (fun hHeld => ?_)
      · exact Below.setRow hHeld hg _
      clear hK K
      try simp only [Act.put, List.setIfInBounds_toArray, List.set_cons_zero, List.set_cons_succ]
      refine wpAnyH_take (i := 9) (oi := ⟨some 12, _, _, _, _, _⟩) (v := ?_) rfl (by kernel_rfl) (by kernel_rfl) (by kernel_rfl) (fun _ _ _ h => h) (Or.inl ⟨by kernel_rfl, ?_⟩) hHeld ?_
      rotate_left
      · intro w1 hSw; (try dsimp only at hSw); go_simp <;> with_reducible rfl
      try simp only [Act.put, List.setIfInBounds_toArray, List.set_cons_zero, List.set_cons_succ]
      refine wpAnyH_done (by kernel_rfl) ?_ _
      go_wp2_with fail
      go_meet
      exact ⟨_, rfl, rfl, hz.setRow _, hg, hHeld⟩
  case rest =>
    obtain ⟨g11, rfl, rfl, r11, hg11, hb3⟩ := hcut
    have HS4 := Lib.hid (HS3.out.keep hb3); have H7' := Lib.hid (H7.out.old hb3); have H9' := Lib.hid (H9.out.old hb3); have H11 := Lib.hid r11
    clear r11 hg11 hb3 HS3 H7 H9 HBY HSE
    go_upto_region 4 with fail
    go_upto_region 5 with (first | (refine wpList_load_row rfl 27 _ rfl (w.heap.size + 1) rfl 27 LP.toArray (0, 0) _ HS4.out.2.1 Tryz.underlying27 rfl ?_ ?_; (rw [infoRP, IP.out.2])) | (go_at_call 10; refine (HCQ.out _).mono ?_; rintro e w5 ⟨rfl, hb5⟩))
    refine genS (fun V => PkS w LK LP (byts bs) V ∧ Row V w1.heap.size 28 LA ∧ Row V w2.heap.size 32 LC ∧ Row V g11 23 LS) ⟨HS4.out.keep hb5, H7'.out.old hb5, H9'.out.old hb5, H11.out.old hb5⟩ ?_
    clear hb5 HS4 H7' H9' H11 HCQ
    rintro W5 ⟨s2, r7, r9, r11⟩
    have HS5 := Lib.hid s2; have H7 := Lib.hid r7; have H9 := Lib.hid r9; have H11 := Lib.hid r11
    have Z5 : Hid (w1.heap.size < W5.heap.size ∧ w2.heap.size < W5.heap.size ∧ g11 < W5.heap.size ∧ w.heap.size + 1 + 1 < W5.heap.size) := ⟨r7.lt, r9.lt, r11.lt, s2.2.2.1.lt⟩
    clear s2 r7 r9 r11
    go_upto_if 40 with (refine wpList_store_row rfl 28 _ _ rfl W5.heap.size (u8s z29).toArray rfl rfl 28 _ (Row.new W5 28 (u8s z29)) ?_ ?_ ?_ ?_; (rw [info51]; rfl); (rfl); (simp [u8s, z29, Value.oneCell']))
    have r14 := new_row W5 28 (u8s z29) (u8s z29)
    refine genS (fun V => Row V W5.heap.size 28 (u8s z29) ∧ PkS w LK LP (byts bs) V ∧ Row V w1.heap.size 28 LA ∧ Row V w2.heap.size 32 LC ∧ Row V g11 23 LS) ⟨r14, HS5.out.keep (new_below _ _ _), H7.out.old (new_below _ _ _), H9.out.old (new_below _ _ _), H11.out.old (new_below _ _ _)⟩ ?_
    clear r14 HS5 H7 H9 H11
    rintro W6 ⟨q14, s6, r7, r9, r11⟩
    have H14 := Lib.hid q14; have HS6 := Lib.hid s6; have H7 := Lib.hid r7; have H9 := Lib.hid r9; have H11 := Lib.hid r11
    clear q14 s6 r7 r9 r11
    go_cut [41] from 40 to 43 (fun s41 wx => Row wx W5.heap.size 28 LA ∧ Below W5.heap.size W6 wx)
    case first =>
      clear HDR HSR HEA HEC HES HAW H7 H9 H11
      by_cases hE : EE = 0
      · have HER2 := Lib.hid (HER.out hE)
        have hE2 : (EE == 0) = true := by simpa using hE
        clear HER HZ hE
        go_wp2_with (first | (refine wpList_load_row rfl 23 _ rfl w.heap.size rfl 23 LK.toArray (0, 0) _ HS6.out.1 Tryz.underlying23 rfl ?_ ?_; (rw [info47, IK.out.2])) | (refine wpList_load_row rfl 27 _ rfl (w.heap.size + 1) rfl 27 LP.toArray (0, 0) _ HS6.out.2.1 Tryz.underlying27 rfl ?_ ?_; (rw [infoRP, IP.out.2])) | (go_at_call 11; refine (HER2.out _).mono ?_; rintro e w7 ⟨rfl, hb7⟩; have K14 := Lib.hid (H14.out.old hb7); have KB := Lib.hid (hb7.mono (Nat.le_of_lt H14.out.lt))) | (refine wpList_store_row rfl 28 _ _ rfl W5.heap.size LA.toArray rfl rfl 28 _ K14.out ?_ ?_ ?_ ?_; (rw [info51, IA.out.2]); (rw [IA.out.2]; rfl); (simpa using HOA.out)))
        go_meet
        exact ⟨K14.out.setRow _, Below.setRow KB.out (Nat.le_refl _) _⟩
      · have hE2 : (EE == 0) = false := by simpa using hE
        have hA := HZ.out hE
        clear HER HZ hE
        go_wp2_with fail
        go_meet
        exact ⟨by rw [hA]; exact H14.out, Below.refl _ _⟩
    case rest =>
      obtain ⟨r14, hb6⟩ := hcut
      have k6 : PkS w LK LP (byts bs) wc := ⟨HS6.out.1.under hb6 (by have := Z5.out; omega), HS6.out.2.1.under hb6 (by have := Z5.out; omega), HS6.out.2.2.1.under hb6 (by have := Z5.out; omega), HS6.out.2.2.2.trans (hb6.mono (by have := Z5.out; omega))⟩
      have HS7 := Lib.hid k6; have H7' := Lib.hid (H7.out.under hb6 Z5.out.1); have H9' := Lib.hid (H9.out.under hb6 Z5.out.2.1); have H11' := Lib.hid (H11.out.under hb6 Z5.out.2.2.1); have H14' := Lib.hid r14
      clear r14 hb6 k6 HS6 H7 H9 H11 H14 HER HZ
      go_upto_region 8 with fail
      go_upto_region 9 with (first | (refine wpList_load_row rfl 23 _ rfl w.heap.size rfl 23 LK.toArray (0, 0) _ HS7.out.1 Tryz.underlying23 rfl ?_ ?_; (rw [info47, IK.out.2])) | (refine wpList_load_row rfl 28 _ rfl (w.heap.size + 1 + 1) rfl 28 (byts bs).toArray (0, 0) _ HS7.out.2.2.1 Tryz.underlying28 rfl ?_ ?_; (rw [info51, IB.out.2])) | (go_at_call 12; refine (HDR.out _).mono ?_; rintro e w8 ⟨rfl, hb8⟩) | (refine wpList_store_row rfl 27 _ _ rfl w8.heap.size LC.toArray rfl rfl 27 _ (Row.new w8 27 zero11) ?_ ?_ ?_ ?_; (rw [infoRP, IC.out.2]); (rw [IC.out.2]; rfl); (simpa using HOC.out)))
      have k2 : PkS w LK LP (byts bs) ((w8.alloc (.cells zero11.toArray 27)).setRow w8.heap.size LC.toArray) := (HS7.out.keep hb8).keep (new_below _ _ _)
      refine genS (fun V => PkS w LK LP (byts bs) V ∧ Row V w1.heap.size 28 LA ∧ Row V w2.heap.size 32 LC ∧ Row V g11 23 LS ∧ Row V W5.heap.size 28 LA ∧ Row V w8.heap.size 27 LC) ⟨k2, (H7'.out.old hb8).old (new_below _ _ _), (H9'.out.old hb8).old (new_below _ _ _), (H11'.out.old hb8).old (new_below _ _ _), (H14'.out.old hb8).old (new_below _ _ _), new_row w8 27 zero11 LC⟩ ?_
      clear k2 hb8 HS7 HDR H7' H9' H11' H14'
      rintro W9 ⟨s2, r7, r9, r11, r14, r15⟩
      have HS9 := Lib.hid s2; have H7 := Lib.hid r7; have H9 := Lib.hid r9; have H11 := Lib.hid r11; have H14 := Lib.hid r14; have H15 := Lib.hid r15
      have HA9 := Lib.hid (HAW.out.old s2.2.2.2)
      clear s2 r7 r9 r11 r14 r15 HAW
      go_upto_region 9 with fail
      refine wp_region_held_drew (S := fun V => Below W9.heap.size W9 V) (by kernel_rfl) ?_ (fun hHeld => ?_)
      · exact (Below.refl _ _).drew
      refine wpAnyH_take (i := 0) (oi := ⟨some 50, _, _, _, _, _⟩) (v := .agg LA.toArray) rfl (by kernel_rfl) (by kernel_rfl) (by kernel_rfl) (fun _ _ _ h => h) (Or.inl ⟨by kernel_rfl, fun V hV => ex_row 28 _ rfl w1.heap.size rfl 28 LA _ Tryz.underlying28 rfl (by rw [info51, IA.out.1]) (H7.out.old hV)⟩) hHeld ?_
      try simp only [Act.put, List.setIfInBounds_toArray, List.set_cons_zero, List.set_cons_succ]
      refine wpAnyH_take (i := 1) (oi := ⟨some 51, _, _, _, _, _⟩) (v := .agg LA.toArray) rfl (by kernel_rfl) (by kernel_rfl) (by kernel_rfl) (fun _ _ _ h => h) (Or.inl ⟨by kernel_rfl, fun V hV => ex_row 28 _ rfl W5.heap.size rfl 28 LA _ Tryz.underlying28 rfl (by rw [info51, IA.out.1]) (H14.out.old hV)⟩) hHeld ?_
      try simp only [Act.put, List.setIfInBounds_toArray, List.set_cons_zero, List.set_cons_succ]
      refine wpAnyH_take (i := 2) (oi := ⟨some 52, _, _, _, _, _⟩) (v := .bool true) rfl (by kernel_rfl) (by kernel_rfl) (by kernel_rfl) (fun _ _ _ h => h) (Or.inl ⟨by kernel_rfl, fun V hV => ex_eql 28 _ _ _ rfl LA.toArray LA.toArray rfl rfl (by kernel_rfl) true (HEA.out V)⟩) hHeld ?_
      try simp only [Act.put, List.setIfInBounds_toArray, List.set_cons_zero, List.set_cons_succ]
      refine wpAnyH_take (i := 3) (oi := ⟨some 53, _, _, _, _, _⟩) (v := ?_) rfl (by kernel_rfl) (by kernel_rfl) (by kernel_rfl) (fun _ _ _ h => h) (Or.inl ⟨by kernel_rfl, ?_⟩) hHeld ?_
      rotate_left
      · intro w1 hSw; (try dsimp only at hSw); go_simp <;> with_reducible rfl
      try simp only [Act.put, List.setIfInBounds_toArray, List.set_cons_zero, List.set_cons_succ]
      refine wpAnyH_take (i := 4) (oi := ⟨some 54, _, _, _, _, _⟩) (v := ?_) rfl (by kernel_rfl) (by kernel_rfl) (by kernel_rfl) (fun _ _ _ h => h) (Or.inl ⟨by kernel_rfl, ?_⟩) hHeld ?_
      rotate_left
      · intro w1 hSw; (try dsimp only at hSw); go_simp <;> with_reducible rfl
      try simp only [Act.put, List.setIfInBounds_toArray, List.set_cons_zero, List.set_cons_succ]
      refine wpAnyH_take (i := 5) (oi := ⟨some 55, _, _, _, _, _⟩) (v := ?_) rfl (by kernel_rfl) (by kernel_rfl) (by kernel_rfl) (fun _ _ _ h => h) (Or.inl ⟨by kernel_rfl, ?_⟩) hHeld ?_
      rotate_left
      · intro w1 hSw; (try dsimp only at hSw); go_simp <;> with_reducible rfl
      try simp only [Act.put, List.setIfInBounds_toArray, List.set_cons_zero, List.set_cons_succ]
      refine wpAnyH_take (i := 6) (oi := ⟨some 56, _, _, _, _, _⟩) (v := ?_) rfl (by kernel_rfl) (by kernel_rfl) (by kernel_rfl) (fun _ _ _ h => h) (Or.inl ⟨by kernel_rfl, ?_⟩) hHeld ?_
      rotate_left
      · intro w1 hSw; (try dsimp only at hSw); go_simp <;> with_reducible rfl
      try simp only [Act.put, List.setIfInBounds_toArray, List.set_cons_zero, List.set_cons_succ]
      refine wpAnyH_take (i := 7) (oi := ⟨some 57, _, _, _, _, _⟩) (v := ?_) rfl (by kernel_rfl) (by kernel_rfl) (by kernel_rfl) (fun _ _ _ h => h) (Or.inl ⟨by kernel_rfl, ?_⟩) hHeld ?_
      rotate_left
      · intro w1 hSw; (try dsimp only at hSw); go_simp <;> with_reducible rfl
      try simp only [Act.put, List.setIfInBounds_toArray, List.set_cons_zero, List.set_cons_succ]
      refine wpAnyH_take (i := 8) (oi := ⟨some 58, _, _, _, _, _⟩) (v := ?_) rfl (by kernel_rfl) (by kernel_rfl) (by kernel_rfl) (fun _ _ _ h => h) (Or.inl ⟨by kernel_rfl, ?_⟩) hHeld ?_
      rotate_left
      · intro w1 hSw; (try dsimp only at hSw); go_simp <;> with_reducible rfl
      try simp only [Act.put, List.setIfInBounds_toArray, List.set_cons_zero, List.set_cons_succ]
      refine wpAnyH_take (i := 9) (oi := ⟨some 59, _, _, _, _, _⟩) (v := .agg LC.toArray) rfl (by kernel_rfl) (by kernel_rfl) (by kernel_rfl) (fun _ _ _ h => h) (Or.inl ⟨by kernel_rfl, fun V hV => ex_row 32 _ rfl w2.heap.size rfl 32 LC _ Tryz.underlying32 rfl (by rw [info54, IC.out.1]) (H9.out.old hV)⟩) hHeld ?_
      try simp only [Act.put, List.setIfInBounds_toArray, List.set_cons_zero, List.set_cons_succ]
      refine wpAnyH_take (i := 10) (oi := ⟨some 60, _, _, _, _, _⟩) (v := .agg LC.toArray) rfl (by kernel_rfl) (by kernel_rfl) (by kernel_rfl) (fun _ _ _ h => h) (Or.inl ⟨by kernel_rfl, fun V hV => ex_row 27 _ rfl w8.heap.size rfl 27 LC _ Tryz.underlying27 rfl (by rw [infoRP, IC.out.1]) (H15.out.old hV)⟩) hHeld ?_
      try simp only [Act.put, List.setIfInBounds_toArray, List.set_cons_zero, List.set_cons_succ]
      refine wpAnyH_take (i := 11) (oi := ⟨some 61, _, _, _, _, _⟩) (v := .bool true) rfl (by kernel_rfl) (by kernel_rfl) (by kernel_rfl) (fun _ _ _ h => h) (Or.inl ⟨by kernel_rfl, fun V hV => ex_eql 27 _ _ _ rfl LC.toArray LC.toArray rfl rfl (by kernel_rfl) true (HEC.out V)⟩) hHeld ?_
      try simp only [Act.put, List.setIfInBounds_toArray, List.set_cons_zero, List.set_cons_succ]
      refine wpAnyH_take (i := 12) (oi := ⟨some 62, _, _, _, _, _⟩) (v := ?_) rfl (by kernel_rfl) (by kernel_rfl) (by kernel_rfl) (fun _ _ _ h => h) (Or.inl ⟨by kernel_rfl, ?_⟩) hHeld ?_
      rotate_left
      · intro w1 hSw; (try dsimp only at hSw); go_simp <;> with_reducible rfl
      try simp only [Act.put, List.setIfInBounds_toArray, List.set_cons_zero, List.set_cons_succ]
      refine wpAnyH_take (i := 13) (oi := ⟨some 63, _, _, _, _, _⟩) (v := ?_) rfl (by kernel_rfl) (by kernel_rfl) (by kernel_rfl) (fun _ _ _ h => h) (Or.inl ⟨by kernel_rfl, ?_⟩) hHeld ?_
      rotate_left
      · intro w1 hSw; (try dsimp only at hSw); go_simp <;> with_reducible rfl
      try simp only [Act.put, List.setIfInBounds_toArray, List.set_cons_zero, List.set_cons_succ]
      refine wpAnyH_take (i := 14) (oi := ⟨some 64, _, _, _, _, _⟩) (v := ?_) rfl (by kernel_rfl) (by kernel_rfl) (by kernel_rfl) (fun _ _ _ h => h) (Or.inl ⟨by kernel_rfl, ?_⟩) hHeld ?_
      rotate_left
      · intro w1 hSw; (try dsimp only at hSw); go_simp <;> with_reducible rfl
      try simp only [Act.put, List.setIfInBounds_toArray, List.set_cons_zero, List.set_cons_succ]
      refine wpAnyH_take (i := 15) (oi := ⟨some 65, _, _, _, _, _⟩) (v := ?_) rfl (by kernel_rfl) (by kernel_rfl) (by kernel_rfl) (fun _ _ _ h => h) (Or.inl ⟨by kernel_rfl, ?_⟩) hHeld ?_
      rotate_left
      · intro w1 hSw; (try dsimp only at hSw); go_simp <;> with_reducible rfl
      try simp only [Act.put, List.setIfInBounds_toArray, List.set_cons_zero, List.set_cons_succ]
      refine wpAnyH_take (i := 16) (oi := ⟨some 66, _, _, _, _, _⟩) (v := ?_) rfl (by kernel_rfl) (by kernel_rfl) (by kernel_rfl) (fun _ _ _ h => h) (Or.inl ⟨by kernel_rfl, ?_⟩) hHeld ?_
      rotate_left
      · intro w1 hSw; (try dsimp only at hSw); go_simp <;> with_reducible rfl
      try simp only [Act.put, List.setIfInBounds_toArray, List.set_cons_zero, List.set_cons_succ]
      refine wpAnyH_take (i := 17) (oi := ⟨some 67, _, _, _, _, _⟩) (v := ?_) rfl (by kernel_rfl) (by kernel_rfl) (by kernel_rfl) (fun _ _ _ h => h) (Or.inl ⟨by kernel_rfl, ?_⟩) hHeld ?_
      rotate_left
      · intro w1 hSw; (try dsimp only at hSw); go_simp <;> with_reducible rfl
      try simp only [Act.put, List.setIfInBounds_toArray, List.set_cons_zero, List.set_cons_succ]
      refine wpAnyH_take (i := 18) (oi := ⟨some 68, _, _, _, _, _⟩) (v := ?_) rfl (by kernel_rfl) (by kernel_rfl) (by kernel_rfl) (fun _ _ _ h => h) (Or.inl ⟨by kernel_rfl, ?_⟩) hHeld ?_
      rotate_left
      · intro w1 hSw; (try dsimp only at hSw); go_simp <;> with_reducible rfl
      try simp only [Act.put, List.setIfInBounds_toArray, List.set_cons_zero, List.set_cons_succ]
      refine wpAnyH_take (i := 19) (oi := ⟨some 69, _, _, _, _, _⟩) (v := .agg LS.toArray) rfl (by kernel_rfl) (by kernel_rfl) (by kernel_rfl) (fun _ _ _ h => h) (Or.inl ⟨by kernel_rfl, fun V hV => ex_row 23 _ rfl g11 rfl 23 LS _ Tryz.underlying23 rfl (by rw [info47, IS.out.1]) (H11.out.old hV)⟩) hHeld ?_
      try simp only [Act.put, List.setIfInBounds_toArray, List.set_cons_zero, List.set_cons_succ]
      refine wpAnyH_take (i := 20) (oi := ⟨some 70, _, _, _, _, _⟩) (v := .agg LK.toArray) rfl (by kernel_rfl) (by kernel_rfl) (by kernel_rfl) (fun _ _ _ h => h) (Or.inl ⟨by kernel_rfl, fun V hV => ex_row 23 _ rfl w.heap.size rfl 23 LK _ Tryz.underlying23 rfl (by rw [info47, IK.out.1]) (HS9.out.keep hV).1⟩) hHeld ?_
      try simp only [Act.put, List.setIfInBounds_toArray, List.set_cons_zero, List.set_cons_succ]
      refine wpAnyH_take (i := 21) (oi := ⟨some 71, _, _, _, _, _⟩) (v := ?_) rfl (by kernel_rfl) (by kernel_rfl) (by kernel_rfl) (fun _ _ _ h => h) (Or.inl ⟨by kernel_rfl, ?_⟩) hHeld ?_
      rotate_left
      · intro w1 hSw; (try dsimp only at hSw); go_simp <;> with_reducible rfl
      try simp only [Act.put, List.setIfInBounds_toArray, List.set_cons_zero, List.set_cons_succ]
      refine wpAnyH_ready (rs := [22]) (by kernel_rfl) (by simp) ?_
      refine AllReadyH.cons rfl (fun K hK => ?_) AllReadyH.nil
      go_simp
      go_at_call 13
      refine (HSR.out _ _ _ (Rd.row (HS9.out.keep hHeld).2.2.1)).mono ?_
      rintro e v1 ⟨rfl, hb1⟩
      try go_simp
      refine hK.out _ _ ?_ (fun hHeld => ?_)
      · exact hHeld.trans (hb1.mono hHeld.size)
      clear hK K
      try simp only [Act.put, List.setIfInBounds_toArray, List.set_cons_zero, List.set_cons_succ]
      refine wpAnyH_take (i := 23) (oi := ⟨some 73, _, _, _, _, _⟩) (v := .bool true) rfl (by kernel_rfl) (by kernel_rfl) (by kernel_rfl) (fun _ _ _ h => h) (Or.inl ⟨by kernel_rfl, fun V hV => ex_eql 23 _ _ _ rfl LS.toArray LS.toArray rfl rfl (by kernel_rfl) true (HES.out V)⟩) hHeld ?_
      try simp only [Act.put, List.setIfInBounds_toArray, List.set_cons_zero, List.set_cons_succ]
      refine wpAnyH_take (i := 24) (oi := ⟨some 74, _, _, _, _, _⟩) (v := ?_) rfl (by kernel_rfl) (by kernel_rfl) (by kernel_rfl) (fun _ _ _ h => h) (Or.inl ⟨by kernel_rfl, ?_⟩) hHeld ?_
      rotate_left
      · intro w1 hSw; (try dsimp only at hSw); go_simp <;> with_reducible rfl
      try simp only [Act.put, List.setIfInBounds_toArray, List.set_cons_zero, List.set_cons_succ]
      refine wpAnyH_take (i := 25) (oi := ⟨some 75, _, _, _, _, _⟩) (v := ?_) rfl (by kernel_rfl) (by kernel_rfl) (by kernel_rfl) (fun _ _ _ h => h) (Or.inl ⟨by kernel_rfl, ?_⟩) hHeld ?_
      rotate_left
      · intro w1 hSw; (try dsimp only at hSw); go_simp <;> with_reducible rfl
      try simp only [Act.put, List.setIfInBounds_toArray, List.set_cons_zero, List.set_cons_succ]
      refine wpAnyH_take (i := 26) (oi := ⟨some 76, _, _, _, _, _⟩) (v := ?_) rfl (by kernel_rfl) (by kernel_rfl) (by kernel_rfl) (fun _ _ _ h => h) (Or.inl ⟨by kernel_rfl, ?_⟩) hHeld ?_
      rotate_left
      · intro w1 hSw; (try dsimp only at hSw); go_simp <;> with_reducible rfl
      try simp only [Act.put, List.setIfInBounds_toArray, List.set_cons_zero, List.set_cons_succ]
      refine wpAnyH_take (i := 27) (oi := ⟨some 77, _, _, _, _, _⟩) (v := ?_) rfl (by kernel_rfl) (by kernel_rfl) (by kernel_rfl) (fun _ _ _ h => h) (Or.inl ⟨by kernel_rfl, ?_⟩) hHeld ?_
      rotate_left
      · intro w1 hSw; (try dsimp only at hSw); go_simp <;> with_reducible rfl
      try simp only [Act.put, List.setIfInBounds_toArray, List.set_cons_zero, List.set_cons_succ]
      refine wpAnyH_take (i := 28) (oi := ⟨some 78, _, _, _, _, _⟩) (v := ?_) rfl (by kernel_rfl) (by kernel_rfl) (by kernel_rfl) (fun _ _ _ h => h) (Or.inl ⟨by kernel_rfl, ?_⟩) hHeld ?_
      rotate_left
      · intro w1 hSw; (try dsimp only at hSw); go_simp <;> with_reducible rfl
      try simp only [Act.put, List.setIfInBounds_toArray, List.set_cons_zero, List.set_cons_succ]
      refine wpAnyH_take (i := 29) (oi := ⟨some 79, _, _, _, _, _⟩) (v := ?_) rfl (by kernel_rfl) (by kernel_rfl) (by kernel_rfl) (fun _ _ _ h => h) (Or.inl ⟨by kernel_rfl, ?_⟩) hHeld ?_
      rotate_left
      · intro w1 hSw; (try dsimp only at hSw); go_simp <;> with_reducible rfl
      try simp only [Act.put, List.setIfInBounds_toArray, List.set_cons_zero, List.set_cons_succ]
      refine wpAnyH_ready (rs := [30]) (by kernel_rfl) (by simp) ?_
      refine AllReadyH.cons rfl (fun K hK => ?_) AllReadyH.nil
      go_simp
      go_at_call 14
      refine (haw _ (HA9.out.old hHeld)).mono ?_
      rintro e v2 ⟨rfl, hb2⟩
      try go_simp
      refine hK.out _ _ ?_ (fun hHeld => ?_)
      · exact hHeld.trans (hb2.mono hHeld.size)
      clear hK K
      try simp only [Act.put, List.setIfInBounds_toArray, List.set_cons_zero, List.set_cons_succ]
      refine wpAnyH_take (i := 31) (oi := ⟨some 81, _, _, _, _, _⟩) (v := ?_) rfl (by kernel_rfl) (by kernel_rfl) (by kernel_rfl) (fun _ _ _ h => h) (Or.inl ⟨by kernel_rfl, ?_⟩) hHeld ?_
      rotate_left
      · intro w1 hSw; (try dsimp only at hSw); go_simp <;> with_reducible rfl
      try simp only [Act.put, List.setIfInBounds_toArray, List.set_cons_zero, List.set_cons_succ]
      refine wpAnyH_take (i := 32) (oi := ⟨some 6, _, _, _, _, _⟩) (v := ?_) rfl (by kernel_rfl) (by kernel_rfl) (by kernel_rfl) (fun _ _ _ h => h) (Or.inl ⟨by kernel_rfl, ?_⟩) hHeld ?_
      rotate_left
      · intro w1 hSw; (try dsimp only at hSw); go_simp <;> with_reducible rfl
      try simp only [Act.put, List.setIfInBounds_toArray, List.set_cons_zero, List.set_cons_succ]
      refine wpAnyH_done (by kernel_rfl) ?_ _
      go_wp2
      go_ret
      exact ⟨rfl, HS9.out.2.2.2.trans (hHeld.mono HS9.out.2.2.2.size)⟩
end Go.Proofs.YtipligklkkiejaaGreatDoor

/- The law of packets: what its walk wants. -/
namespace Go.Proofs.YtipligklkkiejaaGreatDoor
set_option linter.all false
open Go.RowKit Go.Fl
set_option linter.unusedVariables false
set_option linter.unusedSimpArgs false

theorem sampI_zero : sampI 0 = 0 := by
  have h := sampI_fb (n := 0) (by decide)
  have h0 : fb 0 = 0 := by kernel_rfl
  rw [h0] at h; rw [h]; rfl
theorem pk_zero {st ct ln : Int} {xs : List Nat} (h8 : xs.length = 8) (h : pkI st ct ln xs = 0) : (0 ≤ st ∧ st ≤ 255) ∧ (0 ≤ ct ∧ ct ≤ 65535) ∧ (0 ≤ ln ∧ ln ≤ 8) ∧ ∀ x ∈ xs, sampI x = 0 := by
  have ha : ∀ {n a b : Int}, whenI (rangeB n a b) 3 = 0 → a ≤ n ∧ n ≤ b := fun {n a b} hh => by
    cases hq : rangeB n a b with
    | true => rw [hq] at hh; simp [whenI] at hh
    | false => simp [rangeB] at hq; omega
  have hz := firstI_allz h
  have h4 : sampsI xs = 0 := hz _ (by simp)
  exact ⟨ha (hz _ (by simp)), ha (hz _ (by simp)), ha (hz _ (by simp)), (samps_zero h4).2⟩
theorem decC_form (key : List Int) (bs : List UInt8) : ∃ st ct ln ys, decC key bs = pkC st ct ln ys ∧ ys.length = 8 ∧ sameF ys ys = true := by
  unfold decC
  by_cases h : decE key bs = 0
  · rw [if_pos h]
    refine ⟨_, _, _, _, rfl, xsOf_len bs 8, sameF_refl _ ?_⟩
    have hp : pkI (stOf bs) (ctOf bs) (lnOf bs) (xsOf bs 8) = 0 := by
      unfold decE at h
      split at h
      · cases h
      · split at h
        · cases h
        · exact h
    exact (pk_zero (xsOf_len bs 8) hp).2.2.2
  · rw [if_neg h]
    exact ⟨0, 0, 0, [0, 0, 0, 0, 0, 0, 0, 0], rfl, rfl, sameF_refl _ (fun x hx => by simp at hx; subst hx; exact sampI_zero)⟩
theorem eq_pk {st ct ln : Int} {ys : List Nat} (h8 : ys.length = 8) (hs : sameF ys ys = true) (W : World) :
    (Op.equalIn 10000 27 (.agg (pkC st ct ln ys).toArray) (.agg (pkC st ct ln ys).toArray)).run Tryz.prog W = .ok true W := by
  rw [run_eqStruct W 9999 _ _ _ _ (by kernel_rfl) (by kernel_rfl) fields50, eqPk _ _ _ _ _ _ _ _ h8 h8]
  unfold samePk
  rw [hs]; simp
theorem enc_len (key : List Int) (hk : key.length = 8) (st ct ln : Int) (x0 x1 x2 x3 x4 x5 x6 x7 : Nat) : (encB key st ct ln [x0, x1, x2, x3, x4, x5, x6, x7]).length = 29 := by
  unfold encB
  rw [List.length_append, seal8, hk]; rfl
theorem bytes_law (bs : List UInt8) (hl : bs.length = 29) (W : World) (b : Nat) (hr : Rd W (some ⟨b, 0, none⟩) (byts bs)) :
    Calls Tryz.prog 9 #[.slice (some ⟨b, 0, none⟩) 29 29] W fun e w' => ∃ A c, e = .returned (.slice A 29 c) ∧ Rd w' A (byts bs) ∧ Below W.heap.size W w' := by
  refine (bytes_any (some ⟨b, 0, none⟩) 29 29 bs W hr hl.symm (fun h => by cases h) (by omega)).mono ?_
  rintro e w' ⟨v, rfl, ho, hb⟩
  obtain ⟨A, c, rfl, hA⟩ := owned_slice ho
  rw [hl]
  exact ⟨A, c, rfl, hA, hb⟩

theorem recordPackets_ok (haw : AwakeOk) (k0 k1 k2 k3 k4 k5 k6 k7 st ct ln : Int) (x0 x1 x2 x3 x4 x5 x6 x7 : Nat) (bs : List UInt8) (w : World) (hl : bs.length = 29) (hkeys : ∀ j (h : j < 8), isByte ([k0, k1, k2, k3, k4, k5, k6, k7][j])) (haW : Aw w) :
    Calls Tryz.prog 3 #[.agg (u8s [k0, k1, k2, k3, k4, k5, k6, k7]).toArray, .agg (pkC st ct ln [x0, x1, x2, x3, x4, x5, x6, x7]).toArray, .agg (byts bs).toArray] w fun e w' => e = .returned (.bool true) ∧ Below w.heap.size w w' := by
  have lB : (byts bs).length = 29 := by simp [byts, hl]
  obtain ⟨st', ct', ln', ys, hC, h8, hsf⟩ := decC_form [k0, k1, k2, k3, k4, k5, k6, k7] bs
  have lC : (decC [k0, k1, k2, k3, k4, k5, k6, k7] bs).length = 11 := by rw [hC, pkC_length, h8]
  have oC : ∀ v ∈ decC [k0, k1, k2, k3, k4, k5, k6, k7] bs, v.oneCell' = true := by
    rw [hC]; intro v hv
    simp only [pkC, flts, List.mem_append, List.mem_cons, List.not_mem_nil, or_false, List.mem_map] at hv
    rcases hv with (rfl | rfl | rfl) | ⟨x, _, rfl⟩ <;> rfl
  have lS : (u8s (sealL [k0, k1, k2, k3, k4, k5, k6, k7] bs)).length = 8 := by rw [u8s_length, seal8]; rfl
  have eC : ∀ W, (Op.equalIn 10000 27 (.agg (decC [k0, k1, k2, k3, k4, k5, k6, k7] bs).toArray) (.agg (decC [k0, k1, k2, k3, k4, k5, k6, k7] bs).toArray)).run Tryz.prog W = .ok true W := fun W => by rw [hC]; exact eq_pk h8 hsf W
  have eS : ∀ W, (Op.equalIn 10000 23 (.agg (u8s (sealL [k0, k1, k2, k3, k4, k5, k6, k7] bs)).toArray) (.agg (u8s (sealL [k0, k1, k2, k3, k4, k5, k6, k7] bs)).toArray)).run Tryz.prog W = .ok true W := fun W => by
    rw [eqBytes 9998 23 8 Tryz.underlying23 _ _ (by rw [seal8]; rfl) (by rw [seal8]; rfl) W]; simp
  have eA : ∀ (xs : List Int), xs.length = 29 → ∀ W, (Op.equalIn 10000 28 (.agg (u8s xs).toArray) (.agg (u8s xs).toArray)).run Tryz.prog W = .ok true W := fun xs hx W => by
    rw [eqBytes 9998 28 29 Tryz.underlying28 _ _ hx hx W]; simp
  have hCq : ∀ W, Calls Tryz.prog 10 #[.agg (pkC st ct ln [x0, x1, x2, x3, x4, x5, x6, x7]).toArray] W fun e w' => e = .returned (.int .i64 (pkI st ct ln [x0, x1, x2, x3, x4, x5, x6, x7])) ∧ Below W.heap.size W w' := fun W => by
    rw [← pk_same _ _ _ _ rfl]; exact cqR st ct ln x0 x1 x2 x3 x4 x5 x6 x7 W
  have hSe : ∀ W A c, Rd W A (byts bs) → Calls Tryz.prog 8 #[.agg (u8s [k0, k1, k2, k3, k4, k5, k6, k7]).toArray, .slice A 29 c] W fun e w' => e = .returned (.tuple #[.agg (u8s (sealL [k0, k1, k2, k3, k4, k5, k6, k7] bs)).toArray, .int .i64 0]) ∧ Below W.heap.size W w' := fun W A c hr =>
    seal_any k0 k1 k2 k3 k4 k5 k6 k7 A 29 c bs W hr hl.symm (by omega) hkeys
  have hSr : ∀ W A c, Rd W A (byts bs) → Calls Tryz.prog 13 #[.agg (u8s [k0, k1, k2, k3, k4, k5, k6, k7]).toArray, .slice A 29 c] W fun e w' => e = .returned (.agg (u8s (sealL [k0, k1, k2, k3, k4, k5, k6, k7] bs)).toArray) ∧ Below W.heap.size W w' := fun W A c hr =>
    sealR_any k0 k1 k2 k3 k4 k5 k6 k7 A 29 c bs W hr hl.symm (by omega) hkeys
  have hDec := fun W => decode_any k0 k1 k2 k3 k4 k5 k6 k7 bs W hl hkeys
  have hDr := fun W => decodeR_any k0 k1 k2 k3 k4 k5 k6 k7 bs W hl hkeys
  by_cases hE : pkI st ct ln [x0, x1, x2, x3, x4, x5, x6, x7] = 0
  · obtain ⟨h1, h2, h3, h4⟩ := pk_zero rfl hE
    have lA := enc_len [k0, k1, k2, k3, k4, k5, k6, k7] rfl st ct ln x0 x1 x2 x3 x4 x5 x6 x7
    refine packets_walk haw (u8s [k0, k1, k2, k3, k4, k5, k6, k7]) (pkC st ct ln [x0, x1, x2, x3, x4, x5, x6, x7]) (u8s (encB [k0, k1, k2, k3, k4, k5, k6, k7] st ct ln [x0, x1, x2, x3, x4, x5, x6, x7])) (decC [k0, k1, k2, k3, k4, k5, k6, k7] bs) (u8s (sealL [k0, k1, k2, k3, k4, k5, k6, k7] bs)) bs 0 (decE [k0, k1, k2, k3, k4, k5, k6, k7] bs) w haW rfl rfl lB (by rw [u8s_length, lA]) lC lS (u8s_one _) oC (u8s_one _)
      (fun W => encode_ok k0 k1 k2 k3 k4 k5 k6 k7 st ct ln x0 x1 x2 x3 x4 x5 x6 x7 W hE h4 h1 h2 h3 hkeys) hDec (fun W b hr => bytes_law bs hl W b hr) hSe (fun W => by have h := hCq W; rw [hE] at h; exact h)
      (fun _ W => encodeR_ok k0 k1 k2 k3 k4 k5 k6 k7 st ct ln x0 x1 x2 x3 x4 x5 x6 x7 W h4 h1 h2 h3 hkeys) (fun h => absurd rfl h) hDr hSr (eA _ lA) eC eS
  · refine packets_walk haw (u8s [k0, k1, k2, k3, k4, k5, k6, k7]) (pkC st ct ln [x0, x1, x2, x3, x4, x5, x6, x7]) (u8s z29) (decC [k0, k1, k2, k3, k4, k5, k6, k7] bs) (u8s (sealL [k0, k1, k2, k3, k4, k5, k6, k7] bs)) bs (pkI st ct ln [x0, x1, x2, x3, x4, x5, x6, x7]) (decE [k0, k1, k2, k3, k4, k5, k6, k7] bs) w haW rfl rfl lB rfl lC lS (u8s_one _) oC (u8s_one _)
      (fun W => encode_bad k0 k1 k2 k3 k4 k5 k6 k7 st ct ln x0 x1 x2 x3 x4 x5 x6 x7 W hE) hDec (fun W b hr => bytes_law bs hl W b hr) hSe hCq
      (fun h => absurd h hE) (fun _ => rfl) hDr hSr (eA _ rfl) eC eS
theorem cells_u8 : ∀ {cs : List Value}, (∀ v ∈ cs, ∃ n, v = .int .u8 n ∧ IntKind.u8.has n) → ∃ ks : List Int, cs = u8s ks ∧ ks.length = cs.length ∧ ∀ x ∈ ks, isByte x
  | [], _ => ⟨[], rfl, rfl, fun x hx => by cases hx⟩
  | v :: cs, h => by
    obtain ⟨ks, hk, hl, hb⟩ := cells_u8 (cs := cs) (fun u hu => h u (List.mem_cons_of_mem _ hu))
    obtain ⟨n, rfl, hn⟩ := h v List.mem_cons_self
    have hn2 : isByte n := hn
    refine ⟨n :: ks, by rw [hk]; rfl, by simp [hl], fun x hx => ?_⟩
    rcases List.mem_cons.1 hx with rfl | hx
    · exact hn2
    · exact hb x hx
theorem cells_byts {cs : List Value} (h : ∀ v ∈ cs, ∃ n, v = .int .u8 n ∧ IntKind.u8.has n) : ∃ bs : List UInt8, cs = byts bs ∧ bs.length = cs.length := by
  obtain ⟨ks, rfl, hl, hb⟩ := cells_u8 h
  refine ⟨ks.map fun n => UInt8.ofNat n.toNat, ?_, by simp [hl]⟩
  simp only [u8s, byts, List.map_map]
  refine List.map_congr_left fun n hn => ?_
  have := hb n hn
  unfold isByte at this
  simp only [Function.comp, UInt8.toNat_ofNat']
  congr 1
  omega
end Go.Proofs.YtipligklkkiejaaGreatDoor
