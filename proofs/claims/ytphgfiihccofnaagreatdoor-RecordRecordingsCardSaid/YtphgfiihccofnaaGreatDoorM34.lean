import Derived.Test.YtphgfiihccofnaaGreatDoorM33
import Derived.Test.YtphgfiihccofnaaGreatDoorM31
import Derived.Test.YtphgfiihccofnaaGreatDoorM11
/- The law of recordings, walked. -/
namespace Go.Proofs.YtphgfiihccofnaaGreatDoor
set_option linter.all false
open Go.RowKit Go.Fl
set_option linter.unusedVariables false
set_option linter.unusedSimpArgs false

theorem ex_row2 {P : Program} {o : Oper} {a : Act} {w : World} (ty : TypeId) (x : Operand) (ho : o.op = .load ty x) (g : Nat) (hx : a.eval x = .pointer (some ⟨g, 0, none⟩)) (t : TypeId) (cs : List Value) (d : TypeDesc)
    (hu : P.underlying ty = some d) (hd : (match d with | .struct _ | .array _ _ => true | _ => false) = true) (hi : (P.info? ty).map (·.size) = some cs.length) (hr : Row w g t cs) : (execOp a.eval o).run P w = .ok (.value (.agg cs.toArray)) w := by
  unfold execOp
  simp only [ho, hx, Instr.loadAt, Instr.sureAddr, Sem.run_bind, Sem.run_pure, Result.andThen_ok, run_loadVar_row w g t ty cs.toArray (0, 0) d hr hu hd (by simpa using hi)]
/-- the law's parameters, where they lie -/
def RrS (w : World) (A B : Option Addr) (xs : List Nat) (ms : List (Int × ByteArray)) (L0 L1 : List Value) (W : World) : Prop := Row W w.heap.size 25 L0 ∧ Row W (w.heap.size + 1) 27 L1 ∧ Rd W A (flts xs) ∧ Rd W B (markC ms) ∧ Aw W ∧ Below w.heap.size w W
theorem RrS.keep {w W W' : World} {A B : Option Addr} {xs : List Nat} {ms : List (Int × ByteArray)} {L0 L1 : List Value} (h : RrS w A B xs ms L0 L1 W) (hb : Below W.heap.size W W') : RrS w A B xs ms L0 L1 W' :=
  ⟨h.1.old hb, h.2.1.old hb, h.2.2.1.below hb, h.2.2.2.1.below hb, h.2.2.2.2.1.old hb, h.2.2.2.2.2.trans (hb.mono h.2.2.2.2.2.size)⟩
theorem RrS.new {w : World} {A B : Option Addr} {xs : List Nat} {ms : List (Int × ByteArray)} {L0 L1 : List Value} (hA : Rd w A (flts xs)) (hB : Rd w B (markC ms)) (hW : Aw w) : RrS w A B xs ms L0 L1 ((w.alloc (.cells L0.toArray 25)).alloc (.cells L1.toArray 27)) := by
  have hb : Below w.heap.size w ((w.alloc (.cells L0.toArray 25)).alloc (.cells L1.toArray 27)) := ((Below.refl _ _).alloc (Nat.le_refl _) _).alloc (by simp) _
  have r1 := Row.new (w.alloc (.cells L0.toArray 25)) 27 L1
  rw [World.size_alloc] at r1
  exact ⟨(Row.new w 25 L0).alloc _, r1, hA.below hb, hB.below hb, hW.old hb, hb⟩
theorem new_below (w : World) (o : Obj) (cs : Array Value) : Below w.heap.size w ((w.alloc o).setRow w.heap.size cs) := Below.setRow ((Below.refl _ _).alloc (Nat.le_refl _) _) (Nat.le_refl _) _
theorem new_row (w : World) (t : TypeId) (vs us : List Value) : Row ((w.alloc (.cells vs.toArray t)).setRow w.heap.size us.toArray) w.heap.size t us := (Row.new w t vs).setRow _

set_option maxRecDepth 100000 in
set_option maxHeartbeats 1000000 in
theorem recs_far (haw : AwakeOk) (st sp : Int) (A B : Option Addr) (c d : Nat) (xs : List Nat) (ms : List (Int × ByteArray)) (f t : Int) (w : World) (haW : Aw w) (hA : Rd w A (flts xs)) (hB : Rd w B (markC ms))
    (hx : xs.length ≤ 9223372036854775807) (hmm : ms.length ≤ 9223372036854775807) (hs : shortRB xs.length ms = false) :
    Calls Tryz.prog 3 #[.agg #[.int .i64 st, .int .i64 sp, .slice A xs.length c, .slice B ms.length d], .agg #[.int .i64 f, .int .i64 t]] w fun e w' => e = .returned (.bool true) ∧ Below w.heap.size w w' := by
  have HS0 := Lib.hid (RrS.new (L0 := [.int .i64 st, .int .i64 sp, .slice A xs.length c, .slice B ms.length d]) (L1 := [.int .i64 f, .int .i64 t]) hA hB haW)
  have HSH : Hid (∀ W, Rd W B (markC ms) → Calls Tryz.prog 8 #[.agg #[.int .i64 st, .int .i64 sp, .slice A xs.length c, .slice B ms.length d]] W fun e w' => e = .returned (.bool false) ∧ Below W.heap.size W w') := fun W h => by
    have k := shortRecording_any st sp A B xs.length c ms.length d ms W h rfl hx hmm
    rw [hs] at k; exact k
  clear haW hA hB hs
  go_enter Tryz.func3, Tryz.ntmps3
  go_upto_region 1 with fail
  refine genR (RrS w A B xs ms [.int .i64 st, .int .i64 sp, .slice A xs.length c, .slice B ms.length d] [.int .i64 f, .int .i64 t]) HS0.out ?_
  clear HS0
  intro W1 s1
  have HS1 := Lib.hid s1
  clear s1
  go_wp2_with (first | (refine wpList_load_row rfl 25 _ rfl w.heap.size rfl 25 #[.int .i64 st, .int .i64 sp, .slice A xs.length c, .slice B ms.length d] (0, 0) _ HS1.out.1 Tryz.underlying25 rfl ?_ ?_; (kernel_rfl)) | (go_at_call 8; refine (HSH.out _ HS1.out.2.2.2.1).mono ?_; rintro e w1 ⟨rfl, hb1⟩; have HS2 := Lib.hid (HS1.out.keep hb1); clear hb1) | (go_at_call 9; refine (haw _ HS2.out.2.2.2.2.1).mono ?_; rintro e w2 ⟨rfl, hb2⟩; have HS3 := Lib.hid (HS2.out.keep hb2); clear hb2))
  go_ret
  exact ⟨rfl, HS3.out.2.2.2.2.2⟩

set_option maxRecDepth 100000 in
set_option maxHeartbeats 2000000 in
theorem recs_walk (haw : AwakeOk) (st sp : Int) (A B : Option Addr) (c d : Nat) (xs : List Nat) (ms : List (Int × ByteArray)) (f t : Int) (w : World) (haW : Aw w) (hA : Rd w A (flts xs)) (hB : Rd w B (markC ms))
    (hx : xs.length ≤ 9223372036854775807) (hmm : ms.length ≤ 9223372036854775807) (hs : shortRB xs.length ms = true) (s' p' CE EE SP ONE : Int) (cx : List Nat) (cm : List (Int × ByteArray))
    (hGiven : ∀ W, Rd W A (flts xs) → Rd W B (markC ms) → Calls Tryz.prog 11 #[.agg #[.int .i64 st, .int .i64 sp, .slice A xs.length c, .slice B ms.length d]] W fun e w' => ∃ GA gc GB gd, e = .returned (.agg #[.int .i64 st, .int .i64 sp, .slice GA xs.length gc, .slice GB ms.length gd]) ∧ Rd w' GA (flts xs) ∧ Rd w' GB (markC ms) ∧ Below W.heap.size W w' ∧ xs.length ≤ gc ∧ (GA = none → gc = 0))
    (hCut : ∀ W GA gc GB gd, Rd W GA (flts xs) → Rd W GB (markC ms) → xs.length ≤ gc → (GA = none → gc = 0) → Calls Tryz.prog 10 #[.agg #[.int .i64 st, .int .i64 sp, .slice GA xs.length gc, .slice GB ms.length gd], .agg #[.int .i64 f, .int .i64 t]] W fun e w' => ∃ CA cc CB cd, e = .returned (.tuple #[.agg #[.int .i64 s', .int .i64 p', .slice CA cx.length cc, .slice CB cm.length cd], .int .i64 CE]) ∧ w'.ownsRow W.heap.size 90 1 (.slice CA cx.length cc) cx.length (flts cx) ∧ w'.ownsRow W.heap.size 120 2 (.slice CB cm.length cd) cm.length (markC cm) ∧ Below W.heap.size W w')
    (hCp : ∀ W GA gc GB gd, Rd W GA (flts xs) → Rd W GB (markC ms) → Calls Tryz.prog 16 #[.agg #[.int .i64 st, .int .i64 sp, .slice GA xs.length gc, .slice GB ms.length gd]] W fun e w' => e = .returned (.int .i64 EE) ∧ Below W.heap.size W w')
    (hCq : ∀ W, Rd W A (flts xs) → Rd W B (markC ms) → Calls Tryz.prog 12 #[.agg #[.int .i64 st, .int .i64 sp, .slice A xs.length c, .slice B ms.length d]] W fun e w' => e = .returned (.int .i64 EE) ∧ Below W.heap.size W w')
    (hSp : ∀ W, Calls Tryz.prog 14 #[.agg #[.int .i64 f, .int .i64 t], .int .i64 (xs.length : Int)] W fun e w' => e = .returned (.int .i64 SP) ∧ Below W.heap.size W w')
    (hOne : firstI [EE, SP] = ONE)
    (hRef : ONE = 0 → ∀ W, Rd W A (flts xs) → Rd W B (markC ms) → Calls Tryz.prog 15 #[.agg #[.int .i64 st, .int .i64 sp, .slice A xs.length c, .slice B ms.length d], .agg #[.int .i64 f, .int .i64 t]] W fun e w' => ∃ QA qc QB qd, e = .returned (.tuple #[.agg #[.int .i64 s', .int .i64 p', .slice QA cx.length qc, .slice QB cm.length qd], .int .i64 CE]) ∧ w'.ownsRow W.heap.size 90 1 (.slice QA cx.length qc) cx.length (flts cx) ∧ w'.ownsRow W.heap.size 83 2 (.slice QB cm.length qd) cm.length (markC cm) ∧ Below W.heap.size W w')
    (hNo : ONE ≠ 0 → s' = 0 ∧ p' = 0 ∧ cx = [] ∧ cm = [] ∧ CE = ONE)
    (hsf : sameF cx cx = true) (hcx : cx.length ≤ 1000000) (hcm : cm.length ≤ 1000000) :
    Calls Tryz.prog 3 #[.agg #[.int .i64 st, .int .i64 sp, .slice A xs.length c, .slice B ms.length d], .agg #[.int .i64 f, .int .i64 t]] w fun e w' => e = .returned (.bool true) ∧ Below w.heap.size w w' := by
  have HS0 := Lib.hid (RrS.new (L0 := [.int .i64 st, .int .i64 sp, .slice A xs.length c, .slice B ms.length d]) (L1 := [.int .i64 f, .int .i64 t]) hA hB haW)
  have HSH : Hid (∀ W, Rd W B (markC ms) → Calls Tryz.prog 8 #[.agg #[.int .i64 st, .int .i64 sp, .slice A xs.length c, .slice B ms.length d]] W fun e w' => e = .returned (.bool true) ∧ Below W.heap.size W w') := fun W h => by
    have k := shortRecording_any st sp A B xs.length c ms.length d ms W h rfl hx hmm
    rw [hs] at k; exact k
  have HGV := Lib.hid hGiven; have HCT := Lib.hid hCut; have HCP := Lib.hid hCp; have HCQ := Lib.hid hCq; have HSP := Lib.hid hSp; have HON := Lib.hid hOne; have HRF := Lib.hid hRef; have HNO := Lib.hid hNo; have HSF := Lib.hid hsf; have HX := Lib.hid hcx; have HM := Lib.hid hcm
  clear haW hA hB hs hGiven hCut hCp hCq hSp hOne hRef hNo hsf hcx hcm
  go_enter Tryz.func3, Tryz.ntmps3
  go_upto_region 1 with fail
  refine genR (RrS w A B xs ms [.int .i64 st, .int .i64 sp, .slice A xs.length c, .slice B ms.length d] [.int .i64 f, .int .i64 t]) HS0.out ?_
  clear HS0
  intro W1 s1
  have HS1 := Lib.hid s1
  clear s1
  go_upto_region 3 with (first | (refine wpList_load_row rfl 25 _ rfl w.heap.size rfl 25 #[.int .i64 st, .int .i64 sp, .slice A xs.length c, .slice B ms.length d] (0, 0) _ HS1.out.1 Tryz.underlying25 rfl ?_ ?_; (kernel_rfl)) | (go_at_call 8; refine (HSH.out _ HS1.out.2.2.2.1).mono ?_; rintro e W3 ⟨rfl, hb1⟩; have HS3 := Lib.hid (HS1.out.keep hb1); clear hb1))
  clear HS1 HSH
  go_cut [5, 6] from 14 to 21 (fun s5 s6 wx => ∃ (g : Nat) (CA : Option Addr) (cc : Nat) (CB : Option Addr) (cd : Nat), s5 = .pointer (some ⟨g, 0, none⟩) ∧ s6 = .int .i64 CE ∧ Row wx g 32 [.int .i64 s', .int .i64 p', .slice CA cx.length cc, .slice CB cm.length cd] ∧ Rd wx CA (flts cx) ∧ Rd wx CB (markC cm) ∧ (CA = none → cc = 0) ∧ W3.heap.size ≤ g ∧ Below W3.heap.size W3 wx)
  case first =>
    clear HCP HCQ HSP HON HRF HNO HSF HX HM
    refine wp_region_held_drew (S := fun V => Below W3.heap.size W3 V) (by kernel_rfl) ?_ (fun hHeld => ?_)
    · exact (Below.refl _ _).drew
    refine wpAnyH_take (i := 0) (oi := ⟨some 15, _, _, _, _, _⟩) (v := .agg #[.int .i64 st, .int .i64 sp, .slice A xs.length c, .slice B ms.length d]) rfl (by kernel_rfl) (by kernel_rfl) (by kernel_rfl) (fun _ _ _ h => h) (Or.inl ⟨by kernel_rfl, fun V hV => ex_row2 25 _ rfl w.heap.size rfl 25 [.int .i64 st, .int .i64 sp, .slice A xs.length c, .slice B ms.length d] _ Tryz.underlying25 rfl (by kernel_rfl) (HS3.out.keep hV).1⟩) hHeld ?_
    try simp only [Act.put, List.setIfInBounds_toArray, List.set_cons_zero, List.set_cons_succ]
    refine wpAnyH_take (i := 2) (oi := ⟨some 17, _, _, _, _, _⟩) (v := .agg #[.int .i64 f, .int .i64 t]) rfl (by kernel_rfl) (by kernel_rfl) (by kernel_rfl) (fun _ _ _ h => h) (Or.inl ⟨by kernel_rfl, fun V hV => ex_row2 27 _ rfl (w.heap.size + 1) rfl 27 [.int .i64 f, .int .i64 t] _ Tryz.underlying27 rfl (by kernel_rfl) (HS3.out.keep hV).2.1⟩) hHeld ?_
    try simp only [Act.put, List.setIfInBounds_toArray, List.set_cons_zero, List.set_cons_succ]
    refine wpAnyH_ready (rs := [1, 7]) (by kernel_rfl) (by simp) ?_
    refine AllReadyH.cons rfl (fun K hK => ?_) (AllReadyH.cons rfl (fun K hK => ?_) (AllReadyH.nil))
    ·
      go_simp
      go_at_call 11
      refine (HGV.out _ (HS3.out.keep hHeld).2.2.1 (HS3.out.keep hHeld).2.2.2.1).mono ?_
      rintro e w4 ⟨GA, gc, GB, gd, rfl, hga, hgb, hb4, hgc, hgn⟩
      have z4 := (hHeld.trans (hb4.mono hHeld.size)).size
      try go_simp
      refine hK.out _ _ ?_ (fun hHeld => ?_)
      · exact hHeld.trans (hb4.mono hHeld.size)
      clear hK K
      try simp only [Act.put, List.setIfInBounds_toArray, List.set_cons_zero, List.set_cons_succ]
      refine wpAnyH_ready (rs := [3, 7]) (by kernel_rfl) (by simp) ?_
      refine AllReadyH.cons rfl (fun K hK => ?_) (AllReadyH.cons rfl (fun K hK => ?_) (AllReadyH.nil))
      ·
        go_simp
        go_at_call 10
        refine (HCT.out _ _ _ _ _ (by first | exact hga | exact hga.below ((Below.refl _ _).alloc (Nat.le_refl _) _)) (by first | exact hgb | exact hgb.below ((Below.refl _ _).alloc (Nat.le_refl _) _)) hgc hgn).mono ?_
        rintro e w5 ⟨CA, cc, CB, cd, rfl, ho5, hu5, hb5⟩
        have z5 := (hHeld.trans (hb5.mono hHeld.size)).size
        try go_simp
        refine hK.out _ _ ?_ (fun hHeld => ?_)
        · exact hHeld.trans (hb5.mono hHeld.size)
        clear hK K
        try simp only [Act.put, List.setIfInBounds_toArray, List.set_cons_zero, List.set_cons_succ]
        refine wpAnyH_take (i := 4) (oi := ⟨some 14, _, _, _, _, _⟩) (v := ?_) rfl (by kernel_rfl) (by kernel_rfl) (by kernel_rfl) (fun _ _ _ h => h) (Or.inl ⟨by kernel_rfl, ?_⟩) hHeld ?_
        rotate_left
        · intro w1 hSw; (try dsimp only at hSw); go_simp <;> with_reducible rfl
        try simp only [Act.put, List.setIfInBounds_toArray, List.set_cons_zero, List.set_cons_succ]
        refine wpAnyH_take (i := 5) (oi := ⟨some 19, _, _, _, _, _⟩) (v := ?_) rfl (by kernel_rfl) (by kernel_rfl) (by kernel_rfl) (fun _ _ _ h => h) (Or.inl ⟨by kernel_rfl, ?_⟩) hHeld ?_
        rotate_left
        · intro w1 hSw; (try dsimp only at hSw); go_simp <;> with_reducible rfl
        try simp only [Act.put, List.setIfInBounds_toArray, List.set_cons_zero, List.set_cons_succ]
        refine wpAnyH_take (i := 6) (oi := ⟨some 20, _, _, _, _, _⟩) (v := ?_) rfl (by kernel_rfl) (by kernel_rfl) (by kernel_rfl) (fun _ _ _ h => h) (Or.inl ⟨by kernel_rfl, ?_⟩) hHeld ?_
        rotate_left
        · intro w1 hSw; (try dsimp only at hSw); go_simp <;> with_reducible rfl
        try simp only [Act.put, List.setIfInBounds_toArray, List.set_cons_zero, List.set_cons_succ]
        refine wpAnyH_ready (rs := [7]) (by kernel_rfl) (by simp) ?_
        refine AllReadyH.cons rfl (fun K hK => ?_) (AllReadyH.nil)
        go_simp
        refine hK.out _ _ ?_ (fun hHeld => ?_)
        · exact hHeld.alloc hHeld.size _
        clear hK K
        try simp only [Act.put, List.setIfInBounds_toArray, List.set_cons_zero, List.set_cons_succ]
        refine wpAnyH_ready (rs := [8]) (by kernel_rfl) (by simp) ?_
        refine AllReadyH.cons rfl (fun K hK => ?_) (AllReadyH.nil)
        have hz := Row.new w5 32 zero4
        have hg : W3.heap.size ≤ w5.heap.size := z5
        refine step_store_row rfl 32 _ _ rfl w5.heap.size [.int .i64 s', .int .i64 p', .slice CA cx.length cc, .slice CB cm.length cd] rfl rfl 32 zero4 hz (by kernel_rfl) rfl (by simp [Value.oneCell']) ?_
        refine hK.out _ _ ?_ (fun hHeld => ?_)
        · exact Below.setRow hHeld hg _
        clear hK K
        try simp only [Act.put, List.setIfInBounds_toArray, List.set_cons_zero, List.set_cons_succ]
        refine wpAnyH_take (i := 9) (oi := ⟨some 6, _, _, _, _, _⟩) (v := ?_) rfl (by kernel_rfl) (by kernel_rfl) (by kernel_rfl) (fun _ _ _ h => h) (Or.inl ⟨by kernel_rfl, ?_⟩) hHeld ?_
        rotate_left
        · intro w1 hSw; (try dsimp only at hSw); go_simp <;> with_reducible rfl
        try simp only [Act.put, List.setIfInBounds_toArray, List.set_cons_zero, List.set_cons_succ]
        refine wpAnyH_done (by kernel_rfl) ?_ _
        go_wp2_with fail
        go_meet
        exact ⟨_, CA, cc, CB, cd, rfl, rfl, hz.setRow _, owned_rd (owns_other w5.heap.size (ho5.alloc _) (fun j hj hne => setRow_other _ _ _ _ hne) (fun e => by have := (ho5.lt _ e).2; omega)), owned_rd (owns_other w5.heap.size (hu5.alloc _) (fun j hj hne => setRow_other _ _ _ _ hne) (fun e => by have := (hu5.lt _ e).2; omega)), (owns_cap ho5).2, hg, hHeld⟩
      ·
        go_simp
        refine hK.out _ _ ?_ (fun hHeld => ?_)
        · exact hHeld.alloc hHeld.size _
        clear hK K
        try simp only [Act.put, List.setIfInBounds_toArray, List.set_cons_zero, List.set_cons_succ]
        refine wpAnyH_ready (rs := [3]) (by kernel_rfl) (by simp) ?_
        refine AllReadyH.cons rfl (fun K hK => ?_) (AllReadyH.nil)
        go_simp
        go_at_call 10
        refine (HCT.out _ _ _ _ _ (by first | exact hga | exact hga.below ((Below.refl _ _).alloc (Nat.le_refl _) _)) (by first | exact hgb | exact hgb.below ((Below.refl _ _).alloc (Nat.le_refl _) _)) hgc hgn).mono ?_
        rintro e w5 ⟨CA, cc, CB, cd, rfl, ho5, hu5, hb5⟩
        have z5 := (hHeld.trans (hb5.mono hHeld.size)).size
        try go_simp
        refine hK.out _ _ ?_ (fun hHeld => ?_)
        · exact hHeld.trans (hb5.mono hHeld.size)
        clear hK K
        try simp only [Act.put, List.setIfInBounds_toArray, List.set_cons_zero, List.set_cons_succ]
        refine wpAnyH_take (i := 4) (oi := ⟨some 14, _, _, _, _, _⟩) (v := ?_) rfl (by kernel_rfl) (by kernel_rfl) (by kernel_rfl) (fun _ _ _ h => h) (Or.inl ⟨by kernel_rfl, ?_⟩) hHeld ?_
        rotate_left
        · intro w1 hSw; (try dsimp only at hSw); go_simp <;> with_reducible rfl
        try simp only [Act.put, List.setIfInBounds_toArray, List.set_cons_zero, List.set_cons_succ]
        refine wpAnyH_take (i := 5) (oi := ⟨some 19, _, _, _, _, _⟩) (v := ?_) rfl (by kernel_rfl) (by kernel_rfl) (by kernel_rfl) (fun _ _ _ h => h) (Or.inl ⟨by kernel_rfl, ?_⟩) hHeld ?_
        rotate_left
        · intro w1 hSw; (try dsimp only at hSw); go_simp <;> with_reducible rfl
        try simp only [Act.put, List.setIfInBounds_toArray, List.set_cons_zero, List.set_cons_succ]
        refine wpAnyH_take (i := 6) (oi := ⟨some 20, _, _, _, _, _⟩) (v := ?_) rfl (by kernel_rfl) (by kernel_rfl) (by kernel_rfl) (fun _ _ _ h => h) (Or.inl ⟨by kernel_rfl, ?_⟩) hHeld ?_
        rotate_left
        · intro w1 hSw; (try dsimp only at hSw); go_simp <;> with_reducible rfl
        try simp only [Act.put, List.setIfInBounds_toArray, List.set_cons_zero, List.set_cons_succ]
        refine wpAnyH_ready (rs := [8]) (by kernel_rfl) (by simp) ?_
        refine AllReadyH.cons rfl (fun K hK => ?_) (AllReadyH.nil)
        have hz := (Row.new w4 32 zero4).old hb5
        have hg : W3.heap.size ≤ w4.heap.size := z4
        refine step_store_row rfl 32 _ _ rfl w4.heap.size [.int .i64 s', .int .i64 p', .slice CA cx.length cc, .slice CB cm.length cd] rfl rfl 32 zero4 hz (by kernel_rfl) rfl (by simp [Value.oneCell']) ?_
        refine hK.out _ _ ?_ (fun hHeld => ?_)
        · exact Below.setRow hHeld hg _
        clear hK K
        try simp only [Act.put, List.setIfInBounds_toArray, List.set_cons_zero, List.set_cons_succ]
        refine wpAnyH_take (i := 9) (oi := ⟨some 6, _, _, _, _, _⟩) (v := ?_) rfl (by kernel_rfl) (by kernel_rfl) (by kernel_rfl) (fun _ _ _ h => h) (Or.inl ⟨by kernel_rfl, ?_⟩) hHeld ?_
        rotate_left
        · intro w1 hSw; (try dsimp only at hSw); go_simp <;> with_reducible rfl
        try simp only [Act.put, List.setIfInBounds_toArray, List.set_cons_zero, List.set_cons_succ]
        refine wpAnyH_done (by kernel_rfl) ?_ _
        go_wp2_with fail
        go_meet
        exact ⟨_, CA, cc, CB, cd, rfl, rfl, hz.setRow _, owned_rd (owns_far ho5 _ _ (by simp) (Nat.zero_le _)), owned_rd (owns_far hu5 _ _ (by simp) (Nat.zero_le _)), (owns_cap ho5).2, hg, hHeld⟩
    ·
      go_simp
      refine hK.out _ _ ?_ (fun hHeld => ?_)
      · exact hHeld.alloc hHeld.size _
      clear hK K
      try simp only [Act.put, List.setIfInBounds_toArray, List.set_cons_zero, List.set_cons_succ]
      refine wpAnyH_ready (rs := [1]) (by kernel_rfl) (by simp) ?_
      refine AllReadyH.cons rfl (fun K hK => ?_) (AllReadyH.nil)
      go_simp
      go_at_call 11
      refine (HGV.out _ (HS3.out.keep hHeld).2.2.1 (HS3.out.keep hHeld).2.2.2.1).mono ?_
      rintro e w4 ⟨GA, gc, GB, gd, rfl, hga, hgb, hb4, hgc, hgn⟩
      have z4 := (hHeld.trans (hb4.mono hHeld.size)).size
      try go_simp
      refine hK.out _ _ ?_ (fun hHeld => ?_)
      · exact hHeld.trans (hb4.mono hHeld.size)
      clear hK K
      try simp only [Act.put, List.setIfInBounds_toArray, List.set_cons_zero, List.set_cons_succ]
      refine wpAnyH_ready (rs := [3]) (by kernel_rfl) (by simp) ?_
      refine AllReadyH.cons rfl (fun K hK => ?_) (AllReadyH.nil)
      go_simp
      go_at_call 10
      refine (HCT.out _ _ _ _ _ (by first | exact hga | exact hga.below ((Below.refl _ _).alloc (Nat.le_refl _) _)) (by first | exact hgb | exact hgb.below ((Below.refl _ _).alloc (Nat.le_refl _) _)) hgc hgn).mono ?_
      rintro e w5 ⟨CA, cc, CB, cd, rfl, ho5, hu5, hb5⟩
      have z5 := (hHeld.trans (hb5.mono hHeld.size)).size
      try go_simp
      refine hK.out _ _ ?_ (fun hHeld => ?_)
      · exact hHeld.trans (hb5.mono hHeld.size)
      clear hK K
      try simp only [Act.put, List.setIfInBounds_toArray, List.set_cons_zero, List.set_cons_succ]
      refine wpAnyH_take (i := 4) (oi := ⟨some 14, _, _, _, _, _⟩) (v := ?_) rfl (by kernel_rfl) (by kernel_rfl) (by kernel_rfl) (fun _ _ _ h => h) (Or.inl ⟨by kernel_rfl, ?_⟩) hHeld ?_
      rotate_left
      · intro w1 hSw; (try dsimp only at hSw); go_simp <;> with_reducible rfl
      try simp only [Act.put, List.setIfInBounds_toArray, List.set_cons_zero, List.set_cons_succ]
      refine wpAnyH_take (i := 5) (oi := ⟨some 19, _, _, _, _, _⟩) (v := ?_) rfl (by kernel_rfl) (by kernel_rfl) (by kernel_rfl) (fun _ _ _ h => h) (Or.inl ⟨by kernel_rfl, ?_⟩) hHeld ?_
      rotate_left
      · intro w1 hSw; (try dsimp only at hSw); go_simp <;> with_reducible rfl
      try simp only [Act.put, List.setIfInBounds_toArray, List.set_cons_zero, List.set_cons_succ]
      refine wpAnyH_take (i := 6) (oi := ⟨some 20, _, _, _, _, _⟩) (v := ?_) rfl (by kernel_rfl) (by kernel_rfl) (by kernel_rfl) (fun _ _ _ h => h) (Or.inl ⟨by kernel_rfl, ?_⟩) hHeld ?_
      rotate_left
      · intro w1 hSw; (try dsimp only at hSw); go_simp <;> with_reducible rfl
      try simp only [Act.put, List.setIfInBounds_toArray, List.set_cons_zero, List.set_cons_succ]
      refine wpAnyH_ready (rs := [8]) (by kernel_rfl) (by simp) ?_
      refine AllReadyH.cons rfl (fun K hK => ?_) (AllReadyH.nil)
      have hz := ((Row.new W3.drew 32 zero4).old hb4).old hb5
      have hg : W3.heap.size ≤ W3.heap.size := Nat.le_refl _
      refine step_store_row rfl 32 _ _ rfl W3.heap.size [.int .i64 s', .int .i64 p', .slice CA cx.length cc, .slice CB cm.length cd] rfl rfl 32 zero4 hz (by kernel_rfl) rfl (by simp [Value.oneCell']) ?_
      refine hK.out _ _ ?_ (fun hHeld => ?_)
      · exact Below.setRow hHeld hg _
      clear hK K
      try simp only [Act.put, List.setIfInBounds_toArray, List.set_cons_zero, List.set_cons_succ]
      refine wpAnyH_take (i := 9) (oi := ⟨some 6, _, _, _, _, _⟩) (v := ?_) rfl (by kernel_rfl) (by kernel_rfl) (by kernel_rfl) (fun _ _ _ h => h) (Or.inl ⟨by kernel_rfl, ?_⟩) hHeld ?_
      rotate_left
      · intro w1 hSw; (try dsimp only at hSw); go_simp <;> with_reducible rfl
      try simp only [Act.put, List.setIfInBounds_toArray, List.set_cons_zero, List.set_cons_succ]
      refine wpAnyH_done (by kernel_rfl) ?_ _
      go_wp2_with fail
      go_meet
      exact ⟨_, CA, cc, CB, cd, rfl, rfl, hz.setRow _, owned_rd (owns_far ho5 _ _ (by have := hb4.size; have := hb5.size; simp at *; omega) (Nat.zero_le _)), owned_rd (owns_far hu5 _ _ (by have := hb4.size; have := hb5.size; simp at *; omega) (Nat.zero_le _)), (owns_cap ho5).2, hg, hHeld⟩
  case rest =>
    obtain ⟨g5, CA, cc, CB, cd, rfl, rfl, r5, hca, hcb, hcn, hg5, hb3⟩ := hcut
    have HS4 := Lib.hid (HS3.out.keep hb3); have H5 := Lib.hid r5; have HCA := Lib.hid hca; have HCB := Lib.hid hcb; have HCN := Lib.hid hcn
    clear r5 hca hcb hcn hg5 hb3 HS3 HCT
    go_upto_region 4 with fail
    go_upto_region 5 with (first | (refine wpList_load_row rfl 25 _ rfl w.heap.size rfl 25 #[.int .i64 st, .int .i64 sp, .slice A xs.length c, .slice B ms.length d] (0, 0) _ HS4.out.1 Tryz.underlying25 rfl ?_ ?_; (kernel_rfl)) | (go_at_call 12; refine (HCQ.out _ HS4.out.2.2.1 HS4.out.2.2.2.1).mono ?_; rintro e W5 ⟨rfl, hb5⟩))
    have HS5 := Lib.hid (HS4.out.keep hb5); have H5b := Lib.hid (H5.out.old hb5); have HCA5 := Lib.hid (HCA.out.below hb5); have HCB5 := Lib.hid (HCB.out.below hb5)
    clear hb5 HS4 H5 HCA HCB HCQ
    have q2 := HS5.out.1.cell 2
    simp only [List.getElem?_cons_succ, List.getElem?_cons_zero] at q2
    go_upto_region 6 with (first | (refine wpList_load_row rfl 27 _ rfl (w.heap.size + 1) rfl 27 #[.int .i64 f, .int .i64 t] (0, 0) _ HS5.out.2.1 Tryz.underlying27 rfl ?_ ?_; (kernel_rfl)) | (go_at_call 14; refine (HSP.out _).mono ?_; rintro e W6 ⟨rfl, hb6⟩; have HS6 := Lib.hid (HS5.out.keep hb6); have H6b := Lib.hid (H5b.out.old hb6); have HCA6 := Lib.hid (HCA5.out.below hb6); have HCB6 := Lib.hid (HCB5.out.below hb6); clear hb6) | (go_at_call 13; refine (first_any _ _ _ [EE, SP] _ (Rd.new _ _ _ _ rfl) rfl (by simp)).mono ?_; rintro e W7 ⟨rfl, rfl⟩; rw [HON.out]))
    have ba : Below W6.heap.size W6 (W6.alloc (.cells #[.int .i64 EE, .int .i64 SP] 3)) := (Below.refl _ _).alloc (Nat.le_refl _) _
    refine genR (fun V => RrS w A B xs ms [.int .i64 st, .int .i64 sp, .slice A xs.length c, .slice B ms.length d] [.int .i64 f, .int .i64 t] V ∧ Row V g5 32 [.int .i64 s', .int .i64 p', .slice CA cx.length cc, .slice CB cm.length cd] ∧ Rd V CA (flts cx) ∧ Rd V CB (markC cm)) ⟨HS6.out.keep ba, H6b.out.old ba, HCA6.out.below ba, HCB6.out.below ba⟩ ?_
    clear ba HS6 H6b HCA6 HCB6 HS5 H5b HCA5 HCB5 HSP q2
    rintro W7 ⟨s7, r7, a7, b7⟩
    have HS7 := Lib.hid s7; have H7 := Lib.hid r7; have HA7 := Lib.hid a7; have HB7 := Lib.hid b7
    clear s7 r7 a7 b7
    go_upto_if 33 with (refine wpList_store_row rfl 25 _ _ rfl W7.heap.size zero4.toArray rfl rfl 25 _ (Row.new W7 25 zero4) ?_ ?_ ?_ ?_; (kernel_rfl); (rfl); (simp [zero4, Value.oneCell']))
    have nb := new_below W7 (.cells zero4.toArray 25) zero4.toArray
    refine genR (fun V => Below W7.heap.size W7 V ∧ Row V W7.heap.size 25 zero4) ⟨nb, new_row W7 25 zero4 zero4⟩ ?_
    clear nb
    rintro W8 ⟨n8, r9⟩
    have HN8 := Lib.hid n8
    have HS8 := Lib.hid (HS7.out.keep n8); have H9 := Lib.hid r9
    clear n8 r9
    go_cut [8] from 33 to 40 (fun s8 wx => ∃ (QA : Option Addr) (qc : Nat) (QB : Option Addr) (qd : Nat), s8 = .int .i64 CE ∧ RrS w A B xs ms [.int .i64 st, .int .i64 sp, .slice A xs.length c, .slice B ms.length d] [.int .i64 f, .int .i64 t] wx ∧ Row wx g5 32 [.int .i64 s', .int .i64 p', .slice CA cx.length cc, .slice CB cm.length cd] ∧ Rd wx CA (flts cx) ∧ Rd wx CB (markC cm) ∧ Row wx W7.heap.size 25 [.int .i64 s', .int .i64 p', .slice QA cx.length qc, .slice QB cm.length qd] ∧ Rd wx QA (flts cx) ∧ Rd wx QB (markC cm))
    case first =>
      clear HCP HSF HGV
      by_cases hE : ONE = 0
      · have HRF2 := Lib.hid (HRF.out hE)
        have hE2 : (ONE == 0) = true := by simpa using hE
        clear HRF HNO hE HON
        go_wp2_with (first | (refine wpList_load_row rfl 25 _ rfl w.heap.size rfl 25 #[.int .i64 st, .int .i64 sp, .slice A xs.length c, .slice B ms.length d] (0, 0) _ HS8.out.1 Tryz.underlying25 rfl ?_ ?_; (kernel_rfl)) | (refine wpList_load_row rfl 27 _ rfl (w.heap.size + 1) rfl 27 #[.int .i64 f, .int .i64 t] (0, 0) _ HS8.out.2.1 Tryz.underlying27 rfl ?_ ?_; (kernel_rfl)) | (go_at_call 15; refine (HRF2.out _ HS8.out.2.2.1 HS8.out.2.2.2.1).mono ?_; rintro e w9 ⟨QA, qc, QB, qd, rfl, hqa, hqb, hb9⟩; have K9 := Lib.hid (H9.out.old hb9); have KQA := Lib.hid hqa; have KQB := Lib.hid hqb; have KB9 := Lib.hid (HN8.out.trans (hb9.mono HN8.out.size)); have Z9 := Lib.hid (H9.out.lt); have KU := Lib.hid hb9; clear hqa hqb hb9) | (refine wpList_store_row rfl 25 _ _ rfl W7.heap.size #[.int .i64 s', .int .i64 p', .slice QA cx.length qc, .slice QB cm.length qd] rfl rfl 25 _ K9.out ?_ ?_ ?_ ?_; (kernel_rfl); (rfl); (simp [Value.oneCell'])))
        go_meet
        have nb : Below W7.heap.size W7 (w9.setRow W7.heap.size [.int .i64 s', .int .i64 p', .slice QA cx.length qc, .slice QB cm.length qd].toArray) := Below.setRow KB9.out (Nat.le_refl _) _
        exact ⟨QA, qc, QB, qd, rfl, HS7.out.keep nb, H7.out.old nb, HA7.out.below nb, HB7.out.below nb, K9.out.setRow _, owned_rd (owns_far KQA.out _ _ Z9.out (Nat.zero_le _)), owned_rd (owns_far KQB.out _ _ Z9.out (Nat.zero_le _))⟩
      · have hE2 : (ONE == 0) = false := by simpa using hE
        obtain ⟨e1, e2, e3, e4, e5⟩ := HNO.out hE
        subst e1 e2 e3 e4 e5
        clear HRF HNO hE HON
        go_wp2_with fail
        go_meet
        exact ⟨none, 0, none, 0, rfl, HS8.out, H7.out.old HN8.out, HA7.out.below HN8.out, HB7.out.below HN8.out, H9.out, (fun j v hv => by simp [flts] at hv), (fun j v hv => by simp [markC] at hv)⟩
    case rest =>
      obtain ⟨QA, qc, QB, qd, rfl, s9, r5, a5, b5, r9, qa, qb⟩ := hcut
      have HS9 := Lib.hid s9; have H5 := Lib.hid r5; have HCA := Lib.hid a5; have HCB := Lib.hid b5; have H9' := Lib.hid r9; have HQA := Lib.hid qa; have HQB := Lib.hid qb
      clear s9 r5 a5 b5 r9 qa qb HS8 HS7 H7 HA7 HB7 HN8 H9 HRF HNO HON
      obtain ⟨W9, hW9⟩ : ∃ W9 : World, W9 = wc := ⟨_, rfl⟩
      subst hW9
      have H9 := H9'
      go_upto_region 9 with fail
      refine wp_region_held_drew (S := fun V => Below W9.heap.size W9 V) (by kernel_rfl) ?_ (fun hHeld => ?_)
      · exact (Below.refl _ _).drew
      refine wpAnyH_take (i := 0) (oi := ⟨some 40, _, _, _, _, _⟩) (v := .agg #[.int .i64 st, .int .i64 sp, .slice A xs.length c, .slice B ms.length d]) rfl (by kernel_rfl) (by kernel_rfl) (by kernel_rfl) (fun _ _ _ h => h) (Or.inl ⟨by kernel_rfl, fun V hV => ex_row2 25 _ rfl w.heap.size rfl 25 [.int .i64 st, .int .i64 sp, .slice A xs.length c, .slice B ms.length d] _ Tryz.underlying25 rfl (by kernel_rfl) (HS9.out.keep hV).1⟩) hHeld ?_
      try simp only [Act.put, List.setIfInBounds_toArray, List.set_cons_zero, List.set_cons_succ]
      refine wpAnyH_take (i := 3) (oi := ⟨some 43, _, _, _, _, _⟩) (v := ?_) rfl (by kernel_rfl) (by kernel_rfl) (by kernel_rfl) (fun _ _ _ h => h) (Or.inl ⟨by kernel_rfl, ?_⟩) hHeld ?_
      rotate_left
      · intro w1 hSw; (try dsimp only at hSw); go_simp <;> with_reducible rfl
      try simp only [Act.put, List.setIfInBounds_toArray, List.set_cons_zero, List.set_cons_succ]
      refine wpAnyH_ready (rs := [1]) (by kernel_rfl) (by simp) ?_
      refine AllReadyH.cons rfl (fun K hK => ?_) AllReadyH.nil
      go_simp
      go_at_call 11
      refine (HGV.out _ (HS9.out.keep hHeld).2.2.1 (HS9.out.keep hHeld).2.2.2.1).mono ?_
      rintro e v1 ⟨GA, gc, GB, gd, rfl, hga, hgb, hb1, -, -⟩
      have KA := Lib.hid hga; have KB := Lib.hid hgb
      clear hga hgb
      try go_simp
      refine hK.out _ _ ?_ (fun hHeld => ?_)
      · exact hHeld.trans (hb1.mono hHeld.size)
      clear hK K
      try simp only [Act.put, List.setIfInBounds_toArray, List.set_cons_zero, List.set_cons_succ]
      refine wpAnyH_ready (rs := [2]) (by kernel_rfl) (by simp) ?_
      refine AllReadyH.cons rfl (fun K hK => ?_) AllReadyH.nil
      go_simp
      go_at_call 16
      refine (HCP.out _ _ _ _ _ KA.out KB.out).mono ?_
      rintro e v2 ⟨rfl, hb2⟩
      try go_simp
      refine hK.out _ _ ?_ (fun hHeld => ?_)
      · exact hHeld.trans (hb2.mono hHeld.size)
      clear hK K
      try simp only [Act.put, List.setIfInBounds_toArray, List.set_cons_zero, List.set_cons_succ]
      refine wpAnyH_take (i := 4) (oi := ⟨some 44, _, _, _, _, _⟩) (v := ?_) rfl (by kernel_rfl) (by kernel_rfl) (by kernel_rfl) (fun _ _ _ h => h) (Or.inl ⟨by kernel_rfl, ?_⟩) hHeld ?_
      rotate_left
      · intro w1 hSw; (try dsimp only at hSw); go_simp <;> with_reducible rfl
      try simp only [Act.put, List.setIfInBounds_toArray, List.set_cons_zero, List.set_cons_succ]
      refine wpAnyH_take (i := 5) (oi := ⟨some 45, _, _, _, _, _⟩) (v := ?_) rfl (by kernel_rfl) (by kernel_rfl) (by kernel_rfl) (fun _ _ _ h => h) (Or.inl ⟨by kernel_rfl, ?_⟩) hHeld ?_
      rotate_left
      · intro w1 hSw; (try dsimp only at hSw); go_simp <;> with_reducible rfl
      try simp only [Act.put, List.setIfInBounds_toArray, List.set_cons_zero, List.set_cons_succ]
      refine wpAnyH_take (i := 6) (oi := ⟨some 46, _, _, _, _, _⟩) (v := .agg #[.int .i64 s', .int .i64 p', .slice CA cx.length cc, .slice CB cm.length cd]) rfl (by kernel_rfl) (by kernel_rfl) (by kernel_rfl) (fun _ _ _ h => h) (Or.inl ⟨by kernel_rfl, fun V hV => ex_row2 32 _ rfl g5 rfl 32 [.int .i64 s', .int .i64 p', .slice CA cx.length cc, .slice CB cm.length cd] _ Tryz.underlying32 rfl (by kernel_rfl) (H5.out.old hV)⟩) hHeld ?_
      try simp only [Act.put, List.setIfInBounds_toArray, List.set_cons_zero, List.set_cons_succ]
      refine wpAnyH_take (i := 8) (oi := ⟨some 48, _, _, _, _, _⟩) (v := .agg #[.int .i64 s', .int .i64 p', .slice QA cx.length qc, .slice QB cm.length qd]) rfl (by kernel_rfl) (by kernel_rfl) (by kernel_rfl) (fun _ _ _ h => h) (Or.inl ⟨by kernel_rfl, fun V hV => ex_row2 25 _ rfl W7.heap.size rfl 25 [.int .i64 s', .int .i64 p', .slice QA cx.length qc, .slice QB cm.length qd] _ Tryz.underlying25 rfl (by kernel_rfl) (H9.out.old hV)⟩) hHeld ?_
      try simp only [Act.put, List.setIfInBounds_toArray, List.set_cons_zero, List.set_cons_succ]
      refine wpAnyH_ready (rs := [7]) (by kernel_rfl) (by simp) ?_
      refine AllReadyH.cons rfl (fun K hK => ?_) AllReadyH.nil
      go_simp
      go_at_call 18
      refine (told_ok s' p' CA CB cc cd cx cm _ (HCA.out.below hHeld) (HCB.out.below hHeld) HX.out HM.out HCN.out).mono ?_
      rintro e v3 ⟨TA, tc, TB, td, rfl, hta, htb, hb3⟩
      have TA' := Lib.hid hta; have TB' := Lib.hid htb
      clear hta htb
      try go_simp
      refine hK.out _ _ ?_ (fun hHeld => ?_)
      · exact hHeld.trans (hb3.mono hHeld.size)
      clear hK K
      try simp only [Act.put, List.setIfInBounds_toArray, List.set_cons_zero, List.set_cons_succ]
      refine wpAnyH_ready (rs := [9]) (by kernel_rfl) (by simp) ?_
      refine AllReadyH.cons rfl (fun K hK => ?_) AllReadyH.nil
      go_simp
      go_at_call 17
      refine (sameRecording_true s' p' TA TB QA QB tc td qc qd cx cx cm _ TA'.out TB'.out (HQA.out.below hHeld) (HQB.out.below hHeld) HX.out HM.out HSF.out).mono ?_
      rintro e v4 ⟨rfl, hb4⟩
      try go_simp
      refine hK.out _ _ ?_ (fun hHeld => ?_)
      · exact hHeld.trans (hb4.mono hHeld.size)
      clear hK K
      try simp only [Act.put, List.setIfInBounds_toArray, List.set_cons_zero, List.set_cons_succ]
      refine wpAnyH_take (i := 10) (oi := ⟨some 50, _, _, _, _, _⟩) (v := ?_) rfl (by kernel_rfl) (by kernel_rfl) (by kernel_rfl) (fun _ _ _ h => h) (Or.inl ⟨by kernel_rfl, ?_⟩) hHeld ?_
      rotate_left
      · intro w1 hSw; (try dsimp only at hSw); go_simp <;> with_reducible rfl
      try simp only [Act.put, List.setIfInBounds_toArray, List.set_cons_zero, List.set_cons_succ]
      refine wpAnyH_take (i := 11) (oi := ⟨some 51, _, _, _, _, _⟩) (v := ?_) rfl (by kernel_rfl) (by kernel_rfl) (by kernel_rfl) (fun _ _ _ h => h) (Or.inl ⟨by kernel_rfl, ?_⟩) hHeld ?_
      rotate_left
      · intro w1 hSw; (try dsimp only at hSw); go_simp <;> with_reducible rfl
      try simp only [Act.put, List.setIfInBounds_toArray, List.set_cons_zero, List.set_cons_succ]
      refine wpAnyH_take (i := 12) (oi := ⟨some 52, _, _, _, _, _⟩) (v := ?_) rfl (by kernel_rfl) (by kernel_rfl) (by kernel_rfl) (fun _ _ _ h => h) (Or.inl ⟨by kernel_rfl, ?_⟩) hHeld ?_
      rotate_left
      · intro w1 hSw; (try dsimp only at hSw); go_simp <;> with_reducible rfl
      try simp only [Act.put, List.setIfInBounds_toArray, List.set_cons_zero, List.set_cons_succ]
      refine wpAnyH_take (i := 13) (oi := ⟨some 53, _, _, _, _, _⟩) (v := ?_) rfl (by kernel_rfl) (by kernel_rfl) (by kernel_rfl) (fun _ _ _ h => h) (Or.inl ⟨by kernel_rfl, ?_⟩) hHeld ?_
      rotate_left
      · intro w1 hSw; (try dsimp only at hSw); go_simp <;> with_reducible rfl
      try simp only [Act.put, List.setIfInBounds_toArray, List.set_cons_zero, List.set_cons_succ]
      refine wpAnyH_take (i := 14) (oi := ⟨some 54, _, _, _, _, _⟩) (v := ?_) rfl (by kernel_rfl) (by kernel_rfl) (by kernel_rfl) (fun _ _ _ h => h) (Or.inl ⟨by kernel_rfl, ?_⟩) hHeld ?_
      rotate_left
      · intro w1 hSw; (try dsimp only at hSw); go_simp <;> with_reducible rfl
      try simp only [Act.put, List.setIfInBounds_toArray, List.set_cons_zero, List.set_cons_succ]
      refine wpAnyH_take (i := 15) (oi := ⟨some 55, _, _, _, _, _⟩) (v := ?_) rfl (by kernel_rfl) (by kernel_rfl) (by kernel_rfl) (fun _ _ _ h => h) (Or.inl ⟨by kernel_rfl, ?_⟩) hHeld ?_
      rotate_left
      · intro w1 hSw; (try dsimp only at hSw); go_simp <;> with_reducible rfl
      try simp only [Act.put, List.setIfInBounds_toArray, List.set_cons_zero, List.set_cons_succ]
      refine wpAnyH_take (i := 16) (oi := ⟨some 56, _, _, _, _, _⟩) (v := ?_) rfl (by kernel_rfl) (by kernel_rfl) (by kernel_rfl) (fun _ _ _ h => h) (Or.inl ⟨by kernel_rfl, ?_⟩) hHeld ?_
      rotate_left
      · intro w1 hSw; (try dsimp only at hSw); go_simp <;> with_reducible rfl
      try simp only [Act.put, List.setIfInBounds_toArray, List.set_cons_zero, List.set_cons_succ]
      refine wpAnyH_ready (rs := [17]) (by kernel_rfl) (by simp) ?_
      refine AllReadyH.cons rfl (fun K hK => ?_) AllReadyH.nil
      go_simp
      go_at_call 9
      refine (haw _ (HS9.out.keep hHeld).2.2.2.2.1).mono ?_
      rintro e v5 ⟨rfl, hb5⟩
      try go_simp
      refine hK.out _ _ ?_ (fun hHeld => ?_)
      · exact hHeld.trans (hb5.mono hHeld.size)
      clear hK K
      try simp only [Act.put, List.setIfInBounds_toArray, List.set_cons_zero, List.set_cons_succ]
      refine wpAnyH_take (i := 18) (oi := ⟨some 58, _, _, _, _, _⟩) (v := ?_) rfl (by kernel_rfl) (by kernel_rfl) (by kernel_rfl) (fun _ _ _ h => h) (Or.inl ⟨by kernel_rfl, ?_⟩) hHeld ?_
      rotate_left
      · intro w1 hSw; (try dsimp only at hSw); go_simp <;> with_reducible rfl
      try simp only [Act.put, List.setIfInBounds_toArray, List.set_cons_zero, List.set_cons_succ]
      refine wpAnyH_take (i := 19) (oi := ⟨some 4, _, _, _, _, _⟩) (v := ?_) rfl (by kernel_rfl) (by kernel_rfl) (by kernel_rfl) (fun _ _ _ h => h) (Or.inl ⟨by kernel_rfl, ?_⟩) hHeld ?_
      rotate_left
      · intro w1 hSw; (try dsimp only at hSw); go_simp <;> with_reducible rfl
      try simp only [Act.put, List.setIfInBounds_toArray, List.set_cons_zero, List.set_cons_succ]
      refine wpAnyH_done (by kernel_rfl) ?_ _
      go_wp2
      go_ret
      exact ⟨rfl, HS9.out.2.2.2.2.2.trans (hHeld.mono HS9.out.2.2.2.2.2.size)⟩
end Go.Proofs.YtphgfiihccofnaaGreatDoor

/- The law of recordings: what its walk wants. -/
namespace Go.Proofs.YtphgfiihccofnaaGreatDoor
set_option linter.all false
open Go.RowKit Go.Fl
set_option linter.unusedVariables false
set_option linter.unusedSimpArgs false

theorem recI_samps {st sp : Int} {xs : List Nat} {ms : List (Int × ByteArray)} (h : recI st sp xs ms = 0) : sampsI xs = 0 := firstI_allz h _ (by simp)
theorem span_nat {f t : Int} {n : Nat} (h : whenI (spanB f t n) 14 = 0) : ∃ a b : Nat, f = (a : Int) ∧ t = (b : Int) ∧ a ≤ b ∧ b ≤ n := by
  have hb : spanB f t n = false := by
    cases hq : spanB f t n with
    | true => rw [hq] at h; cases h
    | false => rfl
  unfold spanB at hb
  simp only [Bool.or_eq_false_iff, decide_eq_false_iff_not] at hb
  exact ⟨f.toNat, t.toNat, by omega, by omega, by omega, by omega⟩
theorem shortRB_len {n : Nat} {ms : List (Int × ByteArray)} (h : shortRB n ms = true) : n ≤ 4097 ∧ ms.length ≤ 17 := by
  unfold shortRB at h
  simp only [Bool.and_eq_true, Bool.or_eq_true, decide_eq_true_eq] at h
  obtain ⟨⟨_, h1⟩, h2⟩ := h
  unfold shortB at h1
  simp only [Bool.or_eq_true, decide_eq_true_eq] at h1
  omega
set_option maxRecDepth 100000 in
theorem recordRecordings_ok (haw : AwakeOk) (st sp : Int) (A B : Option Addr) (c d : Nat) (xs : List Nat) (ms : List (Int × ByteArray)) (f t : Int) (w : World) (haW : Aw w) (hA : Rd w A (flts xs)) (hB : Rd w B (markC ms)) (hlc : xs.length ≤ c) (hca : A = none → c = 0)
    (hx : xs.length ≤ 9223372036854775807) (hmm : ms.length ≤ 9223372036854775807) :
    Calls Tryz.prog 3 #[.agg #[.int .i64 st, .int .i64 sp, .slice A xs.length c, .slice B ms.length d], .agg #[.int .i64 f, .int .i64 t]] w fun e w' => e = .returned (.bool true) ∧ Below w.heap.size w w' := by
  cases hs : shortRB xs.length ms
  · exact recs_far haw st sp A B c d xs ms f t w haW hA hB hx hmm hs
  · obtain ⟨hl, hm⟩ := shortRB_len hs
    have hGiven := fun (W : World) (h1 : Rd W A (flts xs)) (h2 : Rd W B (markC ms)) => given_ok st sp A B c d xs ms W h1 h2 (by omega) (by omega) hca
    have hCp := fun (W : World) GA gc GB gd (h1 : Rd W GA (flts xs)) (h2 : Rd W GB (markC ms)) => checkRecording_any st sp GA GB xs.length gc ms.length gd xs ms W h1 h2 rfl rfl (by omega)
    have hCq := fun (W : World) (h1 : Rd W A (flts xs)) (h2 : Rd W B (markC ms)) => checkRecordingR_any st sp A B xs.length c ms.length d xs ms W h1 h2 rfl rfl hlc hx hmm
    have hSp := fun (W : World) => checkSpanR_any f t xs.length W
    by_cases hC : cutE st sp xs ms f t = 0
    · have hz := firstI_allz hC
      have h0 : recI st sp xs ms = 0 := hz _ (by simp)
      have h1 : whenI (spanB f t xs.length) 14 = 0 := hz _ (by simp)
      have h2 : whenI (decide (100000000 < tickI st sp f)) 3 = 0 := hz _ (by simp)
      obtain ⟨a, b, rfl, rfl, hab, hbn⟩ := span_nat h1
      have htk : tickI st sp (a : Int) ≤ 100000000 := by
        cases hq : decide (100000000 < tickI st sp (a : Int)) with
        | true => rw [hq] at h2; cases h2
        | false => simpa using hq
      have hone : firstI [recI st sp xs ms, whenI (spanB (a : Int) (b : Int) xs.length) 14] = 0 := by rw [h0, h1]; rfl
      have hcl : ((xs.drop a).take (b - a)).length = b - a := by rw [List.length_take, List.length_drop]; omega
      refine recs_walk haw st sp A B c d xs ms a b w haW hA hB hx hmm hs (tickI st sp a) sp 0 _ _ _ ((xs.drop a).take (b - a)) (cutM a b ms) hGiven ?_ hCp hCq hSp rfl ?_ (fun h => absurd hone h) ?_ ?_ ?_
      · intro W GA gc GB gd g1 g2 g3 g4
        refine (cut_ok st sp GA GB xs.length gc ms.length gd xs ms a b W g1 g2 rfl rfl (by omega) (by omega) g3 g4 h0 hab hbn htk).mono ?_
        rintro e w' ⟨v, g, rfl, ho, hr, hg, hb⟩
        obtain ⟨CA, cc, rfl, -⟩ := owned_slice ho
        have hcm : (cutM (a : Int) (b : Int) ms).length ≤ 17 := by
          unfold cutM; rw [List.length_map]; exact Nat.le_trans (List.length_filter_le _ _) hm
        refine ⟨CA, cc, some ⟨g, 0, none⟩, (cutM (a : Int) (b : Int) ms).length, by rw [hcl], by rw [hcl]; exact ho, row_owns hr 2 _ W.heap.size (markC_length _) (by unfold maxLen; omega) hg, hb⟩
      · intro _ W g1 g2
        refine (cutR_ok st sp A B xs.length c ms.length d xs ms a b W g1 g2 rfl rfl (by omega) (by omega) hab hbn htk).mono ?_
        rintro e w' ⟨v, u, rfl, ho, hu, hb⟩
        obtain ⟨QA, qc, rfl, -⟩ := owned_slice ho
        obtain ⟨QB, qd, rfl, -⟩ := owned_slice hu
        exact ⟨QA, qc, QB, qd, by rw [hcl], by rw [hcl]; exact ho, hu, hb⟩
      · refine sameF_refl _ (fun x hx => ?_)
        exact (samps_zero (recI_samps h0)).2 x (List.mem_of_mem_drop (List.mem_of_mem_take hx))
      · rw [hcl]; omega
      · unfold cutM; rw [List.length_map]; exact Nat.le_trans (List.length_filter_le _ _) (by omega)
    · refine recs_walk haw st sp A B c d xs ms f t w haW hA hB hx hmm hs 0 0 (cutE st sp xs ms f t) _ _ _ [] [] hGiven ?_ hCp hCq hSp rfl ?_ ?_ rfl (by simp) (by simp)
      · intro W GA gc GB gd g1 g2 g3 g4
        refine (cut_bad st sp GA GB xs.length gc ms.length gd xs ms f t W g1 g2 rfl rfl (by omega) hC).mono ?_
        rintro e w' ⟨rfl, hb⟩
        exact ⟨none, 0, none, 0, rfl, World.ownsRow_nil _ _ _ _, World.ownsRow_nil _ _ _ _, hb⟩
      · intro hone W g1 g2
        have hz := firstI_allz hone
        have h0 : recI st sp xs ms = 0 := hz _ (by simp)
        have h1 : whenI (spanB f t xs.length) 14 = 0 := hz _ (by simp)
        obtain ⟨a, b, rfl, rfl, hab, hbn⟩ := span_nat h1
        have htk : 100000000 < tickI st sp (a : Int) := by
          by_cases hq : 100000000 < tickI st sp (a : Int)
          · exact hq
          · exfalso; apply hC
            unfold cutE
            rw [h0, h1, decide_eq_false hq]; rfl
        have hce : cutE st sp xs ms a b = 3 := by unfold cutE; rw [h0, h1, decide_eq_true htk]; rfl
        refine (cutR_far st sp A B xs.length c ms.length d xs ms a b W g1 g2 rfl rfl (by omega) (by omega) hab hbn htk).mono ?_
        rintro e w' ⟨rfl, hb⟩
        exact ⟨none, 0, none, 0, by rw [hce]; rfl, World.ownsRow_nil _ _ _ _, World.ownsRow_nil _ _ _ _, hb⟩
      · intro hone
        refine ⟨rfl, rfl, rfl, rfl, ?_⟩
        have h := firstI_app [recI st sp xs ms, whenI (spanB f t xs.length) 14] [whenI (decide (100000000 < tickI st sp f)) 3]
        rw [if_neg hone] at h
        exact h
end Go.Proofs.YtphgfiihccofnaaGreatDoor
