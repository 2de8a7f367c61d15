import Derived.Test.YtlflfieknibgmaaGreatDoorM10
import Derived.Test.YtlflfieknibgmaaGreatDoorM11
import Derived.IntWalk
import Derived.Deep.DeepCutAuto
import Derived.Deep.LoopGhost
import Derived.Outline
namespace Go.Proofs.YtlflfieknibgmaaGreatDoor
set_option linter.all false
open Go.RowKit Go.Fl
theorem ex_rowT {P : Program} {o : Oper} {a : Act} {w : World} (ty : TypeId) (x : Operand) (ho : o.op = .load ty x) (g : Nat) (hx : a.eval x = .pointer (some ⟨g, 0, none⟩)) (t : TypeId) (cs : List Value) (d : TypeDesc)
    (hu : P.underlying ty = some d) (hd : (match d with | .struct _ | .array _ _ => true | _ => false) = true) (hi : (P.info? ty).map (·.size) = some cs.length) (hr : Row w g t cs) : (execOp a.eval o).run P w = .ok (.value (.agg cs.toArray)) w := by
  unfold execOp
  simp only [ho, hx, Instr.loadAt, Instr.sureAddr, Sem.run_bind, Sem.run_pure, Result.andThen_ok, run_loadVar_row w g t ty cs.toArray (0, 0) d hr hu hd (by simpa using hi)]
theorem ex_Gauss {o : Oper} {a : Act} {w : World} {u v : Value} (x : Operand) (ho : o.op = .load 25 x) (g off : Nat) (hx : a.eval x = .pointer (some ⟨g, off, none⟩)) (c0 : w.cell? ⟨g, off, none⟩ = some u) (c1 : w.cell? ⟨g, off + 1, none⟩ = some v) :
    (execOp a.eval o).run Tryz.prog w = .ok (.value (.agg #[u, v])) w := by
  unfold execOp
  simp only [ho, hx]
  go_simp
def RowN (w : World) (g : Nat) (t : TypeId) (n : Nat) : Prop := ∃ vs : List Value, vs.length = n ∧ Row w g t vs
theorem RowN.old {w w' : World} {g n : Nat} {t : TypeId} (h : RowN w g t n) (hb : Below w.heap.size w w') : RowN w' g t n := by
  obtain ⟨vs, h1, h2⟩ := h
  exact ⟨vs, h1, h2.old hb⟩
theorem RowN.drew {w : World} {g n : Nat} {t : TypeId} (h : RowN w g t n) : RowN w.drew g t n := h
theorem RowN.new (w : World) (t : TypeId) (vs : List Value) : RowN (w.alloc (.cells vs.toArray t)) w.heap.size t vs.length := ⟨vs, rfl, Row.new w t vs⟩
def Gs (a b : Int) : Prop := a.natAbs ≤ 50000000 ∧ b.natAbs ≤ 50000000
theorem Gs.ce {a b : Int} (h : Gs a b) : CE (floatOfInt .f64 a) (floatOfInt .f64 b) a b := ce_of (by have := h.1; omega) (by have := h.2; omega)
theorem row2 {w : World} {t1 t2 : TypeId} {L1 L2 : List Value} : Row ((w.alloc (.cells L1.toArray t1)).alloc (.cells L2.toArray t2)) (w.heap.size + 1) t2 L2 := by
  have h := Row.new (w.alloc (.cells L1.toArray t1)) t2 L2
  rw [World.size_alloc] at h
  exact h
set_option maxRecDepth 100000 in
set_option maxHeartbeats 1000000 in
theorem along_any (a b c d : Int) (w : World) (h : Gs a b) (k : Gs c d) : Calls Tryz.prog 136 #[.agg #[.int .i64 a, .int .i64 b], .agg #[.int .i64 c, .int .i64 d]] w fun e w' => e = .returned (.int .i64 (a * c + b * d)) ∧ Below w.heap.size w w' := by
  have HA : Hid (∀ W, Calls Tryz.prog 164 #[.complex .f64 (floatOfInt .f64 a) (floatOfInt .f64 b), .complex .f64 (floatOfInt .f64 c) (floatOfInt .f64 d)] W fun e w' => e = .returned (.int .i64 (a * c + b * d)) ∧ W = w') := fun W => alongC_any _ _ _ _ a b c d W h.ce k.ce h.1 h.2 k.1 k.2
  clear h k
  go_enter Tryz.func136, Tryz.ntmps136
  go_upto_region 1 with fail
  refine genT (fun V => Row V (w.heap.size) 25 [.int .i64 a, .int .i64 b] ∧ Row V (w.heap.size + 1) 25 [.int .i64 c, .int .i64 d] ∧ Below w.heap.size w V) ⟨(Row.new w 25 [.int .i64 a, .int .i64 b]).alloc _, row2, ((Below.refl _ _).alloc (Nat.le_refl _) _).alloc (by simp) _⟩ ?_
  intro W1 s1
  have HS1 := Lib.hid s1
  clear s1
  refine wp_region_held_drew (S := fun V => Row V (w.heap.size) 25 [.int .i64 a, .int .i64 b] ∧ Row V (w.heap.size + 1) 25 [.int .i64 c, .int .i64 d] ∧ Below w.heap.size w V) (by kernel_rfl) ?_ (fun hHeld => ?_)
  · exact ⟨(HS1.out.1).drew, (HS1.out.2.1).drew, (HS1.out.2.2).drew⟩
  refine wpAnyH_take (i := 0) (oi := ⟨some 5, _, _, _, _, _⟩) (v := .agg #[.int .i64 a, .int .i64 b]) rfl (by kernel_rfl) (by kernel_rfl) (by kernel_rfl) (fun _ _ _ h => h) (Or.inl ⟨by kernel_rfl, fun V hV => ex_rowT 25 _ rfl (w.heap.size) rfl 25 [.int .i64 a, .int .i64 b] _ Tryz.underlying25 rfl (by kernel_rfl) (hV.1)⟩) hHeld ?_
  try simp only [Act.put, List.setIfInBounds_toArray, List.set_cons_zero, List.set_cons_succ]
  refine wpAnyH_take (i := 2) (oi := ⟨some 7, _, _, _, _, _⟩) (v := .agg #[.int .i64 c, .int .i64 d]) rfl (by kernel_rfl) (by kernel_rfl) (by kernel_rfl) (fun _ _ _ h => h) (Or.inl ⟨by kernel_rfl, fun V hV => ex_rowT 25 _ rfl (w.heap.size + 1) rfl 25 [.int .i64 c, .int .i64 d] _ Tryz.underlying25 rfl (by kernel_rfl) (hV.2.1)⟩) hHeld ?_
  try simp only [Act.put, List.setIfInBounds_toArray, List.set_cons_zero, List.set_cons_succ]
  refine wpAnyH_ready (rs := [1]) (by kernel_rfl) (by simp) ?_
  refine AllReadyH.cons rfl (fun K hK => ?_) AllReadyH.nil
  go_simp
  go_at_call 48
  refine (complex_any a b _).mono ?_
  rintro e v1 ⟨rfl, hb1⟩
  try go_simp
  refine hK.out _ _ ?_ (fun hHeld => ?_)
  · exact ⟨(hHeld.1).old hb1, (hHeld.2.1).old hb1, (hHeld.2.2).trans ((hb1).mono (hHeld.2.2).size)⟩
  clear hK K
  try simp only [Act.put, List.setIfInBounds_toArray, List.set_cons_zero, List.set_cons_succ]
  refine wpAnyH_ready (rs := [3]) (by kernel_rfl) (by simp) ?_
  refine AllReadyH.cons rfl (fun K hK => ?_) AllReadyH.nil
  go_simp
  go_at_call 48
  refine (complex_any c d _).mono ?_
  rintro e v3 ⟨rfl, hb3⟩
  try go_simp
  refine hK.out _ _ ?_ (fun hHeld => ?_)
  · exact ⟨(hHeld.1).old hb3, (hHeld.2.1).old hb3, (hHeld.2.2).trans ((hb3).mono (hHeld.2.2).size)⟩
  clear hK K
  try simp only [Act.put, List.setIfInBounds_toArray, List.set_cons_zero, List.set_cons_succ]
  refine wpAnyH_ready (rs := [4]) (by kernel_rfl) (by simp) ?_
  refine AllReadyH.cons rfl (fun K hK => ?_) AllReadyH.nil
  go_simp
  go_at_call 164
  refine (HA.out _).mono ?_
  rintro e v4 ⟨rfl, rfl⟩
  try go_simp
  refine hK.out _ _ ?_ (fun hHeld => ?_)
  · exact hHeld
  clear hK K
  try simp only [Act.put, List.setIfInBounds_toArray, List.set_cons_zero, List.set_cons_succ]
  refine wpAnyH_take (i := 5) (oi := ⟨some 4, _, _, _, _, _⟩) (v := ?_) rfl (by kernel_rfl) (by kernel_rfl) (by kernel_rfl) (fun _ _ _ h => h) (Or.inl ⟨by kernel_rfl, ?_⟩) hHeld ?_
  rotate_left
  · intro w1 hSw; (try dsimp only at hSw); go_simp <;> with_reducible rfl
  try simp only [Act.put, List.setIfInBounds_toArray, List.set_cons_zero, List.set_cons_succ]
  refine wpAnyH_done (by kernel_rfl) ?_ _
  go_wp2_with fail
  go_ret
  exact ⟨rfl, hHeld.2.2⟩
set_option maxRecDepth 100000 in
set_option maxHeartbeats 1000000 in
theorem squareT_any (a b : Int) (w : World) (h : Gs a b) : Calls Tryz.prog 165 #[.agg #[.int .i64 a, .int .i64 b]] w fun e w' => e = .returned (.int .i64 (a * a + b * b)) ∧ Below w.heap.size w w' := by
  have HA : Hid (∀ W, Calls Tryz.prog 136 #[.agg #[.int .i64 a, .int .i64 b], .agg #[.int .i64 a, .int .i64 b]] W fun e w' => e = .returned (.int .i64 (a * a + b * b)) ∧ Below W.heap.size W w') := fun W => along_any a b a b W h h
  clear h
  go_enter Tryz.func165, Tryz.ntmps165
  go_upto_region 1 with fail
  refine genT (fun V => Row V (w.heap.size) 25 [.int .i64 a, .int .i64 b] ∧ Below w.heap.size w V) ⟨Row.new w 25 [.int .i64 a, .int .i64 b], (Below.refl _ _).alloc (Nat.le_refl _) _⟩ ?_
  intro W1 s1
  have HS1 := Lib.hid s1
  clear s1
  go_wp2_with (first | (refine wpList_load_row rfl 25 _ rfl w.heap.size rfl 25 #[.int .i64 a, .int .i64 b] (0, 0) _ HS1.out.1 Tryz.underlying25 rfl ?_ ?_; (kernel_rfl)) | (go_at_call 136; refine (HA.out _).mono ?_; rintro e v3 ⟨rfl, hb3⟩; have HB3 := Lib.hid (HS1.out.2.trans (hb3.mono HS1.out.2.size)); clear hb3))
  go_ret
  exact ⟨rfl, HB3.out⟩
set_option maxRecDepth 100000 in
set_option maxHeartbeats 1000000 in
theorem squareS_any (a b c d x y : Int) (w : World) (h : Gs a b) : Calls Tryz.prog 137 #[.agg #[.int .i64 a, .int .i64 b, .int .i64 c, .int .i64 d, .int .i64 x, .int .i64 y]] w fun e w' => e = .returned (.int .i64 (a * a + b * b)) ∧ Below w.heap.size w w' := by
  have HA : Hid (∀ W, Calls Tryz.prog 165 #[.agg #[.int .i64 a, .int .i64 b]] W fun e w' => e = .returned (.int .i64 (a * a + b * b)) ∧ Below W.heap.size W w') := fun W => squareT_any a b W h
  clear h
  go_enter Tryz.func137, Tryz.ntmps137
  go_upto_region 1 with fail
  refine genT (fun V => Row V (w.heap.size) 34 [.int .i64 a, .int .i64 b, .int .i64 c, .int .i64 d, .int .i64 x, .int .i64 y] ∧ Below w.heap.size w V) ⟨Row.new w 34 [.int .i64 a, .int .i64 b, .int .i64 c, .int .i64 d, .int .i64 x, .int .i64 y], (Below.refl _ _).alloc (Nat.le_refl _) _⟩ ?_
  intro W1 s1
  have HS1 := Lib.hid s1
  clear s1
  have c0 := HS1.out.1.cell 0; have c1 := HS1.out.1.cell 1
  simp only [List.getElem?_cons_succ, List.getElem?_cons_zero] at c0 c1
  go_wp2_with (go_at_call 165; refine (HA.out _).mono ?_; rintro e v3 ⟨rfl, hb3⟩; have HB3 := Lib.hid (HS1.out.2.trans (hb3.mono HS1.out.2.size)); clear hb3)
  go_ret
  exact ⟨rfl, HB3.out⟩
theorem row3N {w : World} {t1 t2 t3 : TypeId} {L1 L2 L3 : List Value} : RowN (((w.alloc (.cells L1.toArray t1)).alloc (.cells L2.toArray t2)).alloc (.cells L3.toArray t3)) (w.heap.size + 1 + 1) t3 L3.length := by
  have h := Row.new ((w.alloc (.cells L1.toArray t1)).alloc (.cells L2.toArray t2)) t3 L3
  rw [World.size_alloc, World.size_alloc] at h
  exact ⟨L3, rfl, h⟩
set_option maxRecDepth 100000 in
set_option maxHeartbeats 1000000 in
theorem timesT_any (a b c d : Int) (w : World) (h : Gs a b) (k : Gs c d) : Calls Tryz.prog 100 #[.agg #[.int .i64 a, .int .i64 b], .agg #[.int .i64 c, .int .i64 d]] w fun e w' => e = .returned (.agg #[.int .i64 (a * c - b * d), .int .i64 (a * d + b * c)]) ∧ Below w.heap.size w w' := by
  have b1 : (a * c).natAbs ≤ 2500000000000000 := by rw [Int.natAbs_mul]; exact Nat.mul_le_mul h.1 k.1
  have b2 : (b * d).natAbs ≤ 2500000000000000 := by rw [Int.natAbs_mul]; exact Nat.mul_le_mul h.2 k.2
  have b3 : (a * d).natAbs ≤ 2500000000000000 := by rw [Int.natAbs_mul]; exact Nat.mul_le_mul h.1 k.2
  have b4 : (b * c).natAbs ≤ 2500000000000000 := by rw [Int.natAbs_mul]; exact Nat.mul_le_mul h.2 k.1
  obtain ⟨p, q, hpq, hm⟩ := h.ce.mul (P := Tryz.prog) k.ce 118 (by omega) (by omega) (by omega) (by omega)
  have HA : Hid (∀ W, Calls Tryz.prog 102 #[.complex .f64 p q] W fun e w' => e = .returned (.agg #[.int .i64 (a * c - b * d), .int .i64 (a * d + b * c)]) ∧ Below W.heap.size W w') := fun W => gauss_any p q _ _ W hpq (by omega) (by omega)
  clear hpq h k b1 b2 b3 b4
  go_enter Tryz.func100, Tryz.ntmps100
  go_upto_region 1 with fail
  refine genT (fun V => Row V (w.heap.size) 25 [.int .i64 a, .int .i64 b] ∧ Row V (w.heap.size + 1) 25 [.int .i64 c, .int .i64 d] ∧ RowN V (w.heap.size + 1 + 1) 25 2 ∧ Below w.heap.size w V) ⟨((Row.new w 25 [.int .i64 a, .int .i64 b]).alloc _).alloc _, row2.alloc _, row3N, (((Below.refl _ _).alloc (Nat.le_refl _) _).alloc (by simp) _).alloc (by simp; omega) _⟩ ?_
  intro W1 s1
  have HS1 := Lib.hid s1
  clear s1
  refine wp_region_held_drew (S := fun V => Row V (w.heap.size) 25 [.int .i64 a, .int .i64 b] ∧ Row V (w.heap.size + 1) 25 [.int .i64 c, .int .i64 d] ∧ RowN V (w.heap.size + 1 + 1) 25 2 ∧ Below w.heap.size w V) (by kernel_rfl) ?_ (fun hHeld => ?_)
  · exact ⟨(HS1.out.1).drew, (HS1.out.2.1).drew, (HS1.out.2.2.1).drew, (HS1.out.2.2.2).drew⟩
  refine wpAnyH_take (i := 0) (oi := ⟨some 5, _, _, _, _, _⟩) (v := .agg #[.int .i64 a, .int .i64 b]) rfl (by kernel_rfl) (by kernel_rfl) (by kernel_rfl) (fun _ _ _ h => h) (Or.inl ⟨by kernel_rfl, fun V hV => ex_rowT 25 _ rfl (w.heap.size) rfl 25 [.int .i64 a, .int .i64 b] _ Tryz.underlying25 rfl (by kernel_rfl) (hV.1)⟩) hHeld ?_
  try simp only [Act.put, List.setIfInBounds_toArray, List.set_cons_zero, List.set_cons_succ]
  refine wpAnyH_take (i := 2) (oi := ⟨some 7, _, _, _, _, _⟩) (v := .agg #[.int .i64 c, .int .i64 d]) rfl (by kernel_rfl) (by kernel_rfl) (by kernel_rfl) (fun _ _ _ h => h) (Or.inl ⟨by kernel_rfl, fun V hV => ex_rowT 25 _ rfl (w.heap.size + 1) rfl 25 [.int .i64 c, .int .i64 d] _ Tryz.underlying25 rfl (by kernel_rfl) (hV.2.1)⟩) hHeld ?_
  try simp only [Act.put, List.setIfInBounds_toArray, List.set_cons_zero, List.set_cons_succ]
  refine wpAnyH_ready (rs := [1]) (by kernel_rfl) (by simp) ?_
  refine AllReadyH.cons rfl (fun K hK => ?_) AllReadyH.nil
  go_simp
  go_at_call 48
  refine (complex_any a b _).mono ?_
  rintro e v1 ⟨rfl, hb1⟩
  try go_simp
  refine hK.out _ _ ?_ (fun hHeld => ?_)
  · exact ⟨(hHeld.1).old hb1, (hHeld.2.1).old hb1, (hHeld.2.2.1).old hb1, (hHeld.2.2.2).trans ((hb1).mono (hHeld.2.2.2).size)⟩
  clear hK K
  try simp only [Act.put, List.setIfInBounds_toArray, List.set_cons_zero, List.set_cons_succ]
  refine wpAnyH_ready (rs := [3]) (by kernel_rfl) (by simp) ?_
  refine AllReadyH.cons rfl (fun K hK => ?_) AllReadyH.nil
  go_simp
  go_at_call 48
  refine (complex_any c d _).mono ?_
  rintro e v3 ⟨rfl, hb3⟩
  try go_simp
  refine hK.out _ _ ?_ (fun hHeld => ?_)
  · exact ⟨(hHeld.1).old hb3, (hHeld.2.1).old hb3, (hHeld.2.2.1).old hb3, (hHeld.2.2.2).trans ((hb3).mono (hHeld.2.2.2).size)⟩
  clear hK K
  try simp only [Act.put, List.setIfInBounds_toArray, List.set_cons_zero, List.set_cons_succ]
  refine wpAnyH_take (i := 4) (oi := ⟨some 9, _, _, _, _, _⟩) (v := ?_) rfl (by kernel_rfl) (by kernel_rfl) (by kernel_rfl) (fun _ _ _ h => h) (Or.inl ⟨by kernel_rfl, ?_⟩) hHeld ?_
  rotate_left
  · intro w1 hSw; (try dsimp only at hSw); go_simp <;> with_reducible rfl
  try simp only [Act.put, List.setIfInBounds_toArray, List.set_cons_zero, List.set_cons_succ]
  refine wpAnyH_ready (rs := [5]) (by kernel_rfl) (by simp) ?_
  refine AllReadyH.cons rfl (fun K hK => ?_) AllReadyH.nil
  go_simp
  go_at_call 102
  refine (HA.out _).mono ?_
  rintro e v5 ⟨rfl, hb5⟩
  try go_simp
  refine hK.out _ _ ?_ (fun hHeld => ?_)
  · exact ⟨(hHeld.1).old hb5, (hHeld.2.1).old hb5, (hHeld.2.2.1).old hb5, (hHeld.2.2.2).trans ((hb5).mono (hHeld.2.2.2).size)⟩
  clear hK K
  try simp only [Act.put, List.setIfInBounds_toArray, List.set_cons_zero, List.set_cons_succ]
  refine wpAnyH_ready (rs := [6]) (by kernel_rfl) (by simp) ?_
  refine AllReadyH.cons rfl (fun K hK => ?_) AllReadyH.nil
  obtain ⟨vs, hvl, hvr⟩ := (hHeld.2.2.1)
  have hLast := hHeld
  refine step_store_row rfl 25 _ _ rfl (w.heap.size + 1 + 1) [.int .i64 (a * c - b * d), .int .i64 (a * d + b * c)] rfl rfl 25 vs hvr (by kernel_rfl) hvl (by simp [Value.oneCell']) ?_
  refine hK.out _ _ ?_ (fun hHeld => ?_)
  · exact ⟨(hHeld.1).farRow (by omega) _, (hHeld.2.1).farRow (by omega) _, ⟨_, rfl, hvr.setRow _⟩, Below.setRow (hHeld.2.2.2) (by omega) _⟩
  clear hK K
  try simp only [Act.put, List.setIfInBounds_toArray, List.set_cons_zero, List.set_cons_succ]
  refine wpAnyH_done (by kernel_rfl) ?_ _
  go_wp2_with fail
  refine bodyPost_ret (results_rowA rfl _ _ (w.heap.size + 1 + 1) 25 #[.int .i64 (a * c - b * d), .int .i64 (a * d + b * c)] (0, 0) _ rfl (hvr.setRow [.int .i64 (a * c - b * d), .int .i64 (a * d + b * c)]) Tryz.underlying25 rfl (by kernel_rfl)) rfl ⟨rfl, Below.setRow hLast.2.2.2 (by omega) _⟩
set_option maxRecDepth 100000 in
set_option maxHeartbeats 1000000 in
theorem plusT_any (a b c d : Int) (w : World) (h : Gs a b) (k : Gs c d) : Calls Tryz.prog 43 #[.agg #[.int .i64 a, .int .i64 b], .agg #[.int .i64 c, .int .i64 d]] w fun e w' => e = .returned (.agg #[.int .i64 (a + c), .int .i64 (b + d)]) ∧ Below w.heap.size w w' := by
  obtain ⟨b1, b2⟩ := h
  obtain ⟨b3, b4⟩ := k
  have h : Gs a b := ⟨b1, b2⟩
  have k : Gs c d := ⟨b3, b4⟩
  obtain ⟨p, q, hpq, hm⟩ := h.ce.add (P := Tryz.prog) k.ce 118 (by omega) (by omega)
  have HA : Hid (∀ W, Calls Tryz.prog 102 #[.complex .f64 p q] W fun e w' => e = .returned (.agg #[.int .i64 (a + c), .int .i64 (b + d)]) ∧ Below W.heap.size W w') := fun W => gauss_any p q _ _ W hpq (by omega) (by omega)
  clear hpq h k b1 b2 b3 b4
  go_enter Tryz.func43, Tryz.ntmps43
  go_upto_region 1 with fail
  refine genT (fun V => Row V (w.heap.size) 25 [.int .i64 a, .int .i64 b] ∧ Row V (w.heap.size + 1) 25 [.int .i64 c, .int .i64 d] ∧ RowN V (w.heap.size + 1 + 1) 25 2 ∧ Below w.heap.size w V) ⟨((Row.new w 25 [.int .i64 a, .int .i64 b]).alloc _).alloc _, row2.alloc _, row3N, (((Below.refl _ _).alloc (Nat.le_refl _) _).alloc (by simp) _).alloc (by simp; omega) _⟩ ?_
  intro W1 s1
  have HS1 := Lib.hid s1
  clear s1
  refine wp_region_held_drew (S := fun V => Row V (w.heap.size) 25 [.int .i64 a, .int .i64 b] ∧ Row V (w.heap.size + 1) 25 [.int .i64 c, .int .i64 d] ∧ RowN V (w.heap.size + 1 + 1) 25 2 ∧ Below w.heap.size w V) (by kernel_rfl) ?_ (fun hHeld => ?_)
  · exact ⟨(HS1.out.1).drew, (HS1.out.2.1).drew, (HS1.out.2.2.1).drew, (HS1.out.2.2.2).drew⟩
  refine wpAnyH_take (i := 0) (oi := ⟨some 5, _, _, _, _, _⟩) (v := .agg #[.int .i64 a, .int .i64 b]) rfl (by kernel_rfl) (by kernel_rfl) (by kernel_rfl) (fun _ _ _ h => h) (Or.inl ⟨by kernel_rfl, fun V hV => ex_rowT 25 _ rfl (w.heap.size) rfl 25 [.int .i64 a, .int .i64 b] _ Tryz.underlying25 rfl (by kernel_rfl) (hV.1)⟩) hHeld ?_
  try simp only [Act.put, List.setIfInBounds_toArray, List.set_cons_zero, List.set_cons_succ]
  refine wpAnyH_take (i := 2) (oi := ⟨some 7, _, _, _, _, _⟩) (v := .agg #[.int .i64 c, .int .i64 d]) rfl (by kernel_rfl) (by kernel_rfl) (by kernel_rfl) (fun _ _ _ h => h) (Or.inl ⟨by kernel_rfl, fun V hV => ex_rowT 25 _ rfl (w.heap.size + 1) rfl 25 [.int .i64 c, .int .i64 d] _ Tryz.underlying25 rfl (by kernel_rfl) (hV.2.1)⟩) hHeld ?_
  try simp only [Act.put, List.setIfInBounds_toArray, List.set_cons_zero, List.set_cons_succ]
  refine wpAnyH_ready (rs := [1]) (by kernel_rfl) (by simp) ?_
  refine AllReadyH.cons rfl (fun K hK => ?_) AllReadyH.nil
  go_simp
  go_at_call 48
  refine (complex_any a b _).mono ?_
  rintro e v1 ⟨rfl, hb1⟩
  try go_simp
  refine hK.out _ _ ?_ (fun hHeld => ?_)
  · exact ⟨(hHeld.1).old hb1, (hHeld.2.1).old hb1, (hHeld.2.2.1).old hb1, (hHeld.2.2.2).trans ((hb1).mono (hHeld.2.2.2).size)⟩
  clear hK K
  try simp only [Act.put, List.setIfInBounds_toArray, List.set_cons_zero, List.set_cons_succ]
  refine wpAnyH_ready (rs := [3]) (by kernel_rfl) (by simp) ?_
  refine AllReadyH.cons rfl (fun K hK => ?_) AllReadyH.nil
  go_simp
  go_at_call 48
  refine (complex_any c d _).mono ?_
  rintro e v3 ⟨rfl, hb3⟩
  try go_simp
  refine hK.out _ _ ?_ (fun hHeld => ?_)
  · exact ⟨(hHeld.1).old hb3, (hHeld.2.1).old hb3, (hHeld.2.2.1).old hb3, (hHeld.2.2.2).trans ((hb3).mono (hHeld.2.2.2).size)⟩
  clear hK K
  try simp only [Act.put, List.setIfInBounds_toArray, List.set_cons_zero, List.set_cons_succ]
  refine wpAnyH_take (i := 4) (oi := ⟨some 9, _, _, _, _, _⟩) (v := ?_) rfl (by kernel_rfl) (by kernel_rfl) (by kernel_rfl) (fun _ _ _ h => h) (Or.inl ⟨by kernel_rfl, ?_⟩) hHeld ?_
  rotate_left
  · intro w1 hSw; (try dsimp only at hSw); go_simp <;> with_reducible rfl
  try simp only [Act.put, List.setIfInBounds_toArray, List.set_cons_zero, List.set_cons_succ]
  refine wpAnyH_ready (rs := [5]) (by kernel_rfl) (by simp) ?_
  refine AllReadyH.cons rfl (fun K hK => ?_) AllReadyH.nil
  go_simp
  go_at_call 102
  refine (HA.out _).mono ?_
  rintro e v5 ⟨rfl, hb5⟩
  try go_simp
  refine hK.out _ _ ?_ (fun hHeld => ?_)
  · exact ⟨(hHeld.1).old hb5, (hHeld.2.1).old hb5, (hHeld.2.2.1).old hb5, (hHeld.2.2.2).trans ((hb5).mono (hHeld.2.2.2).size)⟩
  clear hK K
  try simp only [Act.put, List.setIfInBounds_toArray, List.set_cons_zero, List.set_cons_succ]
  refine wpAnyH_ready (rs := [6]) (by kernel_rfl) (by simp) ?_
  refine AllReadyH.cons rfl (fun K hK => ?_) AllReadyH.nil
  obtain ⟨vs, hvl, hvr⟩ := (hHeld.2.2.1)
  have hLast := hHeld
  refine step_store_row rfl 25 _ _ rfl (w.heap.size + 1 + 1) [.int .i64 (a + c), .int .i64 (b + d)] rfl rfl 25 vs hvr (by kernel_rfl) hvl (by simp [Value.oneCell']) ?_
  refine hK.out _ _ ?_ (fun hHeld => ?_)
  · exact ⟨(hHeld.1).farRow (by omega) _, (hHeld.2.1).farRow (by omega) _, ⟨_, rfl, hvr.setRow _⟩, Below.setRow (hHeld.2.2.2) (by omega) _⟩
  clear hK K
  try simp only [Act.put, List.setIfInBounds_toArray, List.set_cons_zero, List.set_cons_succ]
  refine wpAnyH_done (by kernel_rfl) ?_ _
  go_wp2_with fail
  refine bodyPost_ret (results_rowA rfl _ _ (w.heap.size + 1 + 1) 25 #[.int .i64 (a + c), .int .i64 (b + d)] (0, 0) _ rfl (hvr.setRow [.int .i64 (a + c), .int .i64 (b + d)]) Tryz.underlying25 rfl (by kernel_rfl)) rfl ⟨rfl, Below.setRow hLast.2.2.2 (by omega) _⟩
end Go.Proofs.YtlflfieknibgmaaGreatDoor
namespace Go.Proofs.YtlflfieknibgmaaGreatDoor
set_option linter.all false
open Go.RowKit
set_option maxRecDepth 100000 in
set_option maxHeartbeats 400000 in
theorem ratio_any (a b : Int) (w : World) (ha : Bd a) (hb : 0 < b ∧ b ≤ 9223372036854775807) : Calls Tryz.prog 106 #[.int .i64 a, .int .i64 b] w fun e w' => e = .returned (.agg #[.int .i64 (a.tdiv (gcdI a b)), .int .i64 (b / gcdI a b)]) ∧ Below w.heap.size w w' := by
  have hb2 : Bd b := by unfold Bd; omega
  have Ha := Lib.hid ha; have Hb := Lib.hid hb2
  have hg0 : 0 < gcdI a b := by
    unfold gcdI
    have := Int.gcd_pos_of_ne_zero_right a (b := b) (by omega)
    omega
  obtain ⟨gb, hgb⟩ : ∃ gb, gb = gcdI a b := ⟨_, rfl⟩
  rw [← hgb] at hg0
  have Hgb := Lib.hid hgb
  have hbd : Bd a := Ha.out
  unfold Bd at hbd
  have u1 : -9223372036854775807 ≤ a.tdiv gb ∧ a.tdiv gb ≤ 9223372036854775807 := by
    have h1 : (a.tdiv gb).natAbs ≤ a.natAbs := by rw [Int.natAbs_tdiv]; exact Nat.div_le_self _ _
    omega
  have u2 : 0 ≤ b / gb ∧ b / gb ≤ b := ⟨Int.ediv_nonneg (by omega) (by omega), Int.ediv_le_self _ (by omega)⟩
  have hbt : b.tdiv gb = b / gb := Int.tdiv_eq_ediv_of_nonneg (by omega)
  have e1 : IntKind.i64.wrap (a.tdiv gb) = a.tdiv gb := IntWalk.i64_in _ (by omega)
  have e2 : IntKind.i64.wrap (b / gb) = b / gb := IntWalk.i64_in _ (by omega)
  have e2' : IntKind.i64.wrap (b.tdiv gb) = b / gb := by rw [hbt]; exact e2
  have e5 : wrap64 (a.tdiv gb) = a.tdiv gb := by unfold wrap64; omega
  have e6 : wrap64 (b / gb) = b / gb := by unfold wrap64; omega
  have hne : ¬ gb = 0 := by omega
  have hne2 : (gb == 0) = false := by simpa using hne
  have hm1 : (if (1 : Int) < gb then gb else 1) = gb := by split <;> omega
  have hm2 : (if gb < (1 : Int) then 1 else gb) = gb := by split <;> omega
  have Hbt := Lib.hid hbt
  clear hgb ha hb2 hbd u1 u2 hbt
  go_enter Tryz.func106, Tryz.ntmps106
  go_upto_region 1 with fail
  refine genA w.heap.size 40 [.int .i64 0, .int .i64 0] (Row.new w 40 [.int .i64 0, .int .i64 0]) ((Below.refl w.heap.size w).alloc (Nat.le_refl _) _) ?_
  intro W R0 RB
  have HR := Lib.hid R0; have HRB := Lib.hid RB
  clear R0 RB
  go_wp2_with (go_at_call 138; refine (divisor_any a b _ Ha.out Hb.out).mono ?_; rintro e w1 ⟨rfl, q2, rfl⟩; rw [← Hgb.out])
  go_upto_region 2 with fail
  refine wp_region_held_drew (S := fun _ => True) (by kernel_rfl) ?_ (fun hHeld => ?_)
  · trivial
  refine wpAnyH_take (i := 0) (oi := ⟨some 10, _, _, _, _, _⟩) (v := ?_) rfl (by kernel_rfl) (by kernel_rfl) (by kernel_rfl) (fun _ _ _ h => h) (Or.inl ⟨by kernel_rfl, ?_⟩) hHeld ?_
  rotate_left
  · intro w1 hSw; (try dsimp only at hSw); go_simp <;> with_reducible rfl
  try simp only [Act.put, List.setIfInBounds_toArray, List.set_cons_zero, List.set_cons_succ]
  refine wpAnyH_take (i := 1) (oi := ⟨some 11, _, _, _, _, _⟩) (v := ?_) rfl (by kernel_rfl) (by kernel_rfl) (by kernel_rfl) (fun _ _ _ h => h) (Or.inl ⟨by kernel_rfl, ?_⟩) hHeld ?_
  rotate_left
  · intro w1 hSw; (try dsimp only at hSw); go_simp <;> with_reducible rfl
  try simp only [Act.put, List.setIfInBounds_toArray, List.set_cons_zero, List.set_cons_succ]
  refine wpAnyH_take (i := 2) (oi := ⟨some 12, _, _, _, _, _⟩) (v := ?_) rfl (by kernel_rfl) (by kernel_rfl) (by kernel_rfl) (fun _ _ _ h => h) (Or.inl ⟨by kernel_rfl, ?_⟩) hHeld ?_
  rotate_left
  · intro w1 hSw; (try dsimp only at hSw); go_simp <;> with_reducible rfl
  try simp only [Act.put, List.setIfInBounds_toArray, List.set_cons_zero, List.set_cons_succ]
  refine wpAnyH_take (i := 3) (oi := ⟨some 13, _, _, _, _, _⟩) (v := ?_) rfl (by kernel_rfl) (by kernel_rfl) (by kernel_rfl) (fun _ _ _ h => h) (Or.inl ⟨by kernel_rfl, ?_⟩) hHeld ?_
  rotate_left
  · intro w1 hSw; (try dsimp only at hSw); go_simp <;> with_reducible rfl
  try simp only [Act.put, List.setIfInBounds_toArray, List.set_cons_zero, List.set_cons_succ]
  refine wpAnyH_take (i := 4) (oi := ⟨some 14, _, _, _, _, _⟩) (v := ?_) rfl (by kernel_rfl) (by kernel_rfl) (by kernel_rfl) (fun _ _ _ h => h) (Or.inl ⟨by kernel_rfl, ?_⟩) hHeld ?_
  rotate_left
  · intro w1 hSw; (try dsimp only at hSw); go_simp <;> with_reducible rfl
  try simp only [Act.put, List.setIfInBounds_toArray, List.set_cons_zero, List.set_cons_succ]
  refine wpAnyH_take (i := 5) (oi := ⟨some 15, _, _, _, _, _⟩) (v := ?_) rfl (by kernel_rfl) (by kernel_rfl) (by kernel_rfl) (fun _ _ _ h => h) (Or.inl ⟨by kernel_rfl, ?_⟩) hHeld ?_
  rotate_left
  · intro w1 hSw; (try dsimp only at hSw); go_simp <;> with_reducible rfl
  try simp only [Act.put, List.setIfInBounds_toArray, List.set_cons_zero, List.set_cons_succ]
  refine wpAnyH_take (i := 6) (oi := ⟨some 16, _, _, _, _, _⟩) (v := ?_) rfl (by kernel_rfl) (by kernel_rfl) (by kernel_rfl) (fun _ _ _ h => h) (Or.inl ⟨by kernel_rfl, ?_⟩) hHeld ?_
  rotate_left
  · intro w1 hSw; (try dsimp only at hSw); go_simp <;> with_reducible rfl
  try simp only [Act.put, List.setIfInBounds_toArray, List.set_cons_zero, List.set_cons_succ]
  refine wpAnyH_ready (rs := [7]) (by kernel_rfl) (by simp) ?_
  refine AllReadyH.cons rfl (fun K hK => ?_) AllReadyH.nil
  refine step_store_row rfl 40 _ _ rfl w.heap.size [.int .i64 (a.tdiv gb), .int .i64 (b / gb)] rfl rfl 40 [.int .i64 0, .int .i64 0] HR.out (by kernel_rfl) rfl (by simp [Value.oneCell']) ?_
  refine hK.out _ _ ?_ (fun hHeld => ?_)
  · trivial
  clear hK K
  try simp only [Act.put, List.setIfInBounds_toArray, List.set_cons_zero, List.set_cons_succ]
  refine wpAnyH_done (by kernel_rfl) ?_ _
  go_wp2
  have hrow : Row (((W.drewN q2).drew).setRow w.heap.size [Value.int .i64 (a.tdiv gb), .int .i64 (b / gb)].toArray) w.heap.size 40 [.int .i64 (a.tdiv gb), .int .i64 (b / gb)] := Row.setRow (w := (W.drewN q2).drew) HR.out _
  refine bodyPost_ret (results_rowA rfl _ _ w.heap.size 40 _ (0, 0) _ rfl hrow Tryz.underlying40 rfl (by kernel_rfl)) rfl ⟨by rw [← Hgb.out], ?_⟩
  have hb0 := HRB.out
  exact Below.setRow (w := (W.drewN q2).drew) ⟨hb0.os, hb0.tape, hb0.output, hb0.size, hb0.block⟩ (Nat.le_refl _) _
end Go.Proofs.YtlflfieknibgmaaGreatDoor
namespace Go.Proofs.YtlflfieknibgmaaGreatDoor
set_option linter.all false
open Go.RowKit Go.Fl
set_option maxRecDepth 100000 in
set_option maxHeartbeats 1000000 in
theorem tones_any (w : World) : Calls Tryz.prog 49 #[] w fun e w' => e = .returned (.agg #[.int .i64 1, .int .i64 1, .int .i64 (-1), .int .i64 (-1), .func (.func 107) #[] #[], .int .i64 1, .int .i64 (-1), .int .i64 1, .int .i64 (-1), .func (.func 108) #[] #[]]) ∧ Below w.heap.size w w' := by
  go_enter Tryz.func49, Tryz.ntmps49
  go_upto_region 1 with fail
  refine genA w.heap.size 124 [.int .i64 0, .int .i64 0, .int .i64 0, .int .i64 0, .nilFunc, .int .i64 0, .int .i64 0, .int .i64 0, .int .i64 0, .nilFunc] (Row.new w 124 _) ((Below.refl w.heap.size w).alloc (Nat.le_refl _) _) ?_
  intro W R0 RB
  have HR := Lib.hid R0; have HRB := Lib.hid RB
  clear R0 RB
  go_wp2_with (refine wpList_store_row rfl 124 _ _ rfl w.heap.size #[.int .i64 1, .int .i64 1, .int .i64 (-1), .int .i64 (-1), .func (.func 107) #[] #[], .int .i64 1, .int .i64 (-1), .int .i64 1, .int .i64 (-1), .func (.func 108) #[] #[]] rfl rfl 124 _ HR.out ?_ ?_ ?_ ?_; (kernel_rfl); (rfl); (simp [Value.oneCell']))
  refine bodyPost_ret (results_rowA rfl _ _ w.heap.size 124 #[.int .i64 1, .int .i64 1, .int .i64 (-1), .int .i64 (-1), .func (.func 107) #[] #[], .int .i64 1, .int .i64 (-1), .int .i64 1, .int .i64 (-1), .func (.func 108) #[] #[]] (0, 0) _ rfl (HR.out.setRow [.int .i64 1, .int .i64 1, .int .i64 (-1), .int .i64 (-1), .func (.func 107) #[] #[], .int .i64 1, .int .i64 (-1), .int .i64 1, .int .i64 (-1), .func (.func 108) #[] #[]]) Tryz.underlying124 rfl (by kernel_rfl)) rfl ⟨rfl, Below.setRow HRB.out (Nat.le_refl _) _⟩
set_option maxRecDepth 100000 in
set_option maxHeartbeats 1000000 in
theorem tone1_any (a b c d x y : Int) (w : World) : Calls Tryz.prog 107 #[.agg #[.int .i64 a, .int .i64 b, .int .i64 c, .int .i64 d, .int .i64 x, .int .i64 y]] w fun e w' => e = .returned (.agg #[.int .i64 c, .int .i64 d]) ∧ Below w.heap.size w w' := by
  go_enter Tryz.func107, Tryz.ntmps107
  go_upto_region 1 with fail
  refine genT (fun V => Row V w.heap.size 34 [.int .i64 a, .int .i64 b, .int .i64 c, .int .i64 d, .int .i64 x, .int .i64 y] ∧ Row V (w.heap.size + 1) 25 [.int .i64 0, .int .i64 0] ∧ Below w.heap.size w V) ⟨(Row.new w _ [.int .i64 a, .int .i64 b, .int .i64 c, .int .i64 d, .int .i64 x, .int .i64 y]).alloc _, row2, ((Below.refl _ _).alloc (Nat.le_refl _) _).alloc (by simp) _⟩ ?_
  intro W1 s1
  have HS1 := Lib.hid s1
  clear s1
  have c2 := HS1.out.1.cell 2; have c3 := HS1.out.1.cell 3
  simp only [List.getElem?_cons_succ, List.getElem?_cons_zero] at c2 c3
  go_wp2_with (refine wpList_store_row rfl 25 _ _ rfl (w.heap.size + 1) #[.int .i64 c, .int .i64 d] rfl rfl 25 _ HS1.out.2.1 ?_ ?_ ?_ ?_; (kernel_rfl); (rfl); (simp [Value.oneCell']))
  refine bodyPost_ret (results_rowA rfl _ _ (w.heap.size + 1) 25 #[.int .i64 c, .int .i64 d] (0, 0) _ rfl (HS1.out.2.1.setRow [.int .i64 c, .int .i64 d]) Tryz.underlying25 rfl (by kernel_rfl)) rfl ⟨rfl, Below.setRow HS1.out.2.2 (by omega) _⟩
set_option maxRecDepth 100000 in
set_option maxHeartbeats 1000000 in
theorem tone2_any (a b c d x y : Int) (w : World) : Calls Tryz.prog 108 #[.agg #[.int .i64 a, .int .i64 b, .int .i64 c, .int .i64 d, .int .i64 x, .int .i64 y]] w fun e w' => e = .returned (.agg #[.int .i64 x, .int .i64 y]) ∧ Below w.heap.size w w' := by
  go_enter Tryz.func108, Tryz.ntmps108
  go_upto_region 1 with fail
  refine genT (fun V => Row V w.heap.size 34 [.int .i64 a, .int .i64 b, .int .i64 c, .int .i64 d, .int .i64 x, .int .i64 y] ∧ Row V (w.heap.size + 1) 25 [.int .i64 0, .int .i64 0] ∧ Below w.heap.size w V) ⟨(Row.new w _ [.int .i64 a, .int .i64 b, .int .i64 c, .int .i64 d, .int .i64 x, .int .i64 y]).alloc _, row2, ((Below.refl _ _).alloc (Nat.le_refl _) _).alloc (by simp) _⟩ ?_
  intro W1 s1
  have HS1 := Lib.hid s1
  clear s1
  have c2 := HS1.out.1.cell 4; have c3 := HS1.out.1.cell 5
  simp only [List.getElem?_cons_succ, List.getElem?_cons_zero] at c2 c3
  go_wp2_with (refine wpList_store_row rfl 25 _ _ rfl (w.heap.size + 1) #[.int .i64 x, .int .i64 y] rfl rfl 25 _ HS1.out.2.1 ?_ ?_ ?_ ?_; (kernel_rfl); (rfl); (simp [Value.oneCell']))
  refine bodyPost_ret (results_rowA rfl _ _ (w.heap.size + 1) 25 #[.int .i64 x, .int .i64 y] (0, 0) _ rfl (HS1.out.2.1.setRow [.int .i64 x, .int .i64 y]) Tryz.underlying25 rfl (by kernel_rfl)) rfl ⟨rfl, Below.setRow HS1.out.2.2 (by omega) _⟩
theorem row3 {w : World} {t1 t2 t3 : TypeId} {L1 L2 L3 : List Value} : Row (((w.alloc (.cells L1.toArray t1)).alloc (.cells L2.toArray t2)).alloc (.cells L3.toArray t3)) (w.heap.size + 1 + 1) t3 L3 := by
  have h := Row.new ((w.alloc (.cells L1.toArray t1)).alloc (.cells L2.toArray t2)) t3 L3
  rw [World.size_alloc, World.size_alloc] at h
  exact h
def DpS (w : World) (a b c d x y : Int) (cs : List Value) (V : World) : Prop := Row V w.heap.size 34 [.int .i64 a, .int .i64 b, .int .i64 c, .int .i64 d, .int .i64 x, .int .i64 y] ∧ Row V (w.heap.size + 1) 201 [.int .i64 0, .int .i64 0, .int .i64 0, .int .i64 0] ∧ Row V (w.heap.size + 1 + 1) 201 cs ∧ Below w.heap.size w V
theorem DpS.old {w : World} {a b c d x y : Int} {cs : List Value} {V V' : World} (h : DpS w a b c d x y cs V) (hb : Below V.heap.size V V') : DpS w a b c d x y cs V' := ⟨h.1.old hb, h.2.1.old hb, h.2.2.1.old hb, h.2.2.2.trans (hb.mono h.2.2.2.size)⟩
theorem dpNew {w wr : World} {a b c d x y : Int} {cs : List Value} {t : TypeId} {L1 L2 : List Value} (h : DpS w a b c d x y cs wr) : Row ((wr.alloc (.cells L1.toArray t)).setRow wr.heap.size L2.toArray) w.heap.size 34 [.int .i64 a, .int .i64 b, .int .i64 c, .int .i64 d, .int .i64 x, .int .i64 y] ∧ Row ((wr.alloc (.cells L1.toArray t)).setRow wr.heap.size L2.toArray) wr.heap.size t L2 ∧ Row ((wr.alloc (.cells L1.toArray t)).setRow wr.heap.size L2.toArray) (w.heap.size + 1) 201 [.int .i64 0, .int .i64 0, .int .i64 0, .int .i64 0] ∧ Row ((wr.alloc (.cells L1.toArray t)).setRow wr.heap.size L2.toArray) (w.heap.size + 1 + 1) 201 cs ∧ Below w.heap.size w ((wr.alloc (.cells L1.toArray t)).setRow wr.heap.size L2.toArray) := by
  have hb : Below wr.heap.size wr ((wr.alloc (.cells L1.toArray t)).setRow wr.heap.size L2.toArray) := Below.setRow ((Below.refl _ _).alloc (Nat.le_refl _) _) (Nat.le_refl _) _
  exact ⟨h.1.old hb, (Row.new wr t L1).setRow L2, h.2.1.old hb, h.2.2.1.old hb, h.2.2.2.trans (hb.mono h.2.2.2.size)⟩
theorem Row.far1 {w : World} {g h : Nat} {t : TypeId} {vs : List Value} (hr : Row w g t vs) (hne : g ≠ h) (i : Nat) (v : Value) : Row (w.setCell ⟨h, i, none⟩ v) g t vs := (heap_setCell_other w ⟨h, i, none⟩ g v hne).trans hr
theorem exR {A B : Value → Value → Prop} (h : ∃ u v, A u v) (hp : ∀ {u v}, A u v → B u v) : ∃ u v, B u v := by
  obtain ⟨u, v, hh⟩ := h
  exact ⟨u, v, hp hh⟩
def dpC (N0 N1 Q : Int) : Nat → List Value
  | 0 => [.int .i64 0, .int .i64 0, .int .i64 0, .int .i64 0]
  | 1 => [.int .i64 N0, .int .i64 Q, .int .i64 0, .int .i64 0]
  | _ => [.int .i64 N0, .int .i64 Q, .int .i64 N1, .int .i64 Q]
set_option maxRecDepth 100000 in
set_option maxHeartbeats 2000000 in
theorem depths_any (a b c d x y : Int) (w : World) (h1 : Gs a b) (h2 : Gs c d) (h3 : Gs x y) : Calls Tryz.prog 105 #[.agg #[.int .i64 a, .int .i64 b, .int .i64 c, .int .i64 d, .int .i64 x, .int .i64 y]] w fun e w' => e = .returned (.agg #[.int .i64 (c * a + d * b), .int .i64 (a * a + b * b), .int .i64 (x * a + y * b), .int .i64 (a * a + b * b)]) ∧ Below w.heap.size w w' := by
  obtain ⟨N0, hN0⟩ : ∃ N0, N0 = c * a + d * b := ⟨_, rfl⟩
  obtain ⟨N1, hN1⟩ : ∃ N1, N1 = x * a + y * b := ⟨_, rfl⟩
  obtain ⟨Q, hQ⟩ : ∃ Q, Q = a * a + b * b := ⟨_, rfl⟩
  rw [← hN0, ← hN1, ← hQ]
  have HA0 : Hid (∀ W, Calls Tryz.prog 136 #[.agg #[.int .i64 c, .int .i64 d], .agg #[.int .i64 a, .int .i64 b]] W fun e w' => e = .returned (.int .i64 N0) ∧ Below W.heap.size W w') := fun W => by rw [hN0]; exact along_any c d a b W h2 h1
  have HA1 : Hid (∀ W, Calls Tryz.prog 136 #[.agg #[.int .i64 x, .int .i64 y], .agg #[.int .i64 a, .int .i64 b]] W fun e w' => e = .returned (.int .i64 N1) ∧ Below W.heap.size W w') := fun W => by rw [hN1]; exact along_any x y a b W h3 h1
  have HSQ : Hid (∀ W, Calls Tryz.prog 137 #[.agg #[.int .i64 a, .int .i64 b, .int .i64 c, .int .i64 d, .int .i64 x, .int .i64 y]] W fun e w' => e = .returned (.int .i64 Q) ∧ Below W.heap.size W w') := fun W => by rw [hQ]; exact squareS_any a b c d x y W h1
  clear hN0 hN1 hQ h1 h2 h3
  have hi0 : ∀ w, (Instr.index 124 (.agg #[.int .i64 1, .int .i64 1, .int .i64 (-1), .int .i64 (-1), .func (.func 107) #[] #[], .int .i64 1, .int .i64 (-1), .int .i64 1, .int .i64 (-1), .func (.func 108) #[] #[]]) (.int .i64 0)).run Tryz.prog w = .ok (.agg #[.int .i64 1, .int .i64 1, .int .i64 (-1), .int .i64 (-1), .func (.func 107) #[] #[]]) w := fun w => by kernel_rfl
  have hi1 : ∀ w, (Instr.index 124 (.agg #[.int .i64 1, .int .i64 1, .int .i64 (-1), .int .i64 (-1), .func (.func 107) #[] #[], .int .i64 1, .int .i64 (-1), .int .i64 1, .int .i64 (-1), .func (.func 108) #[] #[]]) (.int .i64 1)).run Tryz.prog w = .ok (.agg #[.int .i64 1, .int .i64 (-1), .int .i64 1, .int .i64 (-1), .func (.func 108) #[] #[]]) w := fun w => by kernel_rfl
  go_enter Tryz.func105, Tryz.ntmps105
  go_upto_region 2 with fail
  refine genT (fun V => Row V w.heap.size 34 [.int .i64 a, .int .i64 b, .int .i64 c, .int .i64 d, .int .i64 x, .int .i64 y] ∧ Row V (w.heap.size + 1) 201 [.int .i64 0, .int .i64 0, .int .i64 0, .int .i64 0] ∧ Row V (w.heap.size + 1 + 1) 201 [.int .i64 0, .int .i64 0, .int .i64 0, .int .i64 0] ∧ Below w.heap.size w V) ⟨((Row.new w _ [.int .i64 a, .int .i64 b, .int .i64 c, .int .i64 d, .int .i64 x, .int .i64 y]).alloc _).alloc _, row2.alloc _, row3, (((Below.refl _ _).alloc (Nat.le_refl _) _).alloc (by simp) _).alloc (by simp; omega) _⟩ ?_
  intro W1 s1
  have HS1 := Lib.hid s1
  clear s1
  go_upto_region 3 with (go_at_call 49; refine (tones_any _).mono ?_; rintro e w2 ⟨rfl, hb2⟩; have HS2 := Lib.hid (DpS.old HS1.out hb2); clear hb2 HS1)
  go_loopg [7] 2 (fun g s7 wx => (g = 2 ∧ s7 = .int .i64 0 ∧ Hid (DpS w a b c d x y (dpC N0 N1 Q 0) wx)) ∨ (g = 1 ∧ s7 = .int .i64 1 ∧ Hid (DpS w a b c d x y (dpC N0 N1 Q 1) wx)) ∨ (g = 0 ∧ s7 = .int .i64 2 ∧ Hid (DpS w a b c d x y (dpC N0 N1 Q 2) wx)))
  case atStart => exact .inl ⟨rfl, rfl, HS2⟩
  case round =>
    clear HS2
    obtain ⟨rfl, rfl, HS⟩ | ⟨rfl, rfl, HS⟩ | ⟨rfl, rfl, HS⟩ := hrel
    · clear HA1
      have HG : Hid (w.heap.size + 1 + 1 < wr.heap.size) := HS.out.2.2.1.lt
      go_upto_region 5 with (refine wpList_store_row rfl 123 _ _ rfl wr.heap.size #[.int .i64 1, .int .i64 1, .int .i64 (-1), .int .i64 (-1), .func (.func 107) #[] #[]] rfl rfl 123 _ (Row.new wr 123 [.int .i64 0, .int .i64 0, .int .i64 0, .int .i64 0, .nilFunc]) ?_ ?_ ?_ ?_; (kernel_rfl); (rfl); (simp [Value.oneCell']))
      refine genT (fun V => Row V (w.heap.size) 34 [.int .i64 a, .int .i64 b, .int .i64 c, .int .i64 d, .int .i64 x, .int .i64 y] ∧ Row V (wr.heap.size) 123 [.int .i64 1, .int .i64 1, .int .i64 (-1), .int .i64 (-1), .func (.func 107) #[] #[]] ∧ Row V (w.heap.size + 1) 201 [.int .i64 0, .int .i64 0, .int .i64 0, .int .i64 0] ∧ (∃ u v, Row V (w.heap.size + 1 + 1) 201 [u, v, .int .i64 0, .int .i64 0]) ∧ Below w.heap.size w V) (let h := dpNew (t := 123) (L1 := [.int .i64 0, .int .i64 0, .int .i64 0, .int .i64 0, .nilFunc]) (L2 := [.int .i64 1, .int .i64 1, .int .i64 (-1), .int .i64 (-1), .func (.func 107) #[] #[]]) HS.out; ⟨h.1, h.2.1, h.2.2.1, ⟨_, _, h.2.2.2.1⟩, h.2.2.2.2⟩) ?_
      intro W2 s2
      have HS2 := Lib.hid s2
      clear s2 HS
      refine wp_region_held_drew (S := fun V => Row V (w.heap.size) 34 [.int .i64 a, .int .i64 b, .int .i64 c, .int .i64 d, .int .i64 x, .int .i64 y] ∧ Row V (wr.heap.size) 123 [.int .i64 1, .int .i64 1, .int .i64 (-1), .int .i64 (-1), .func (.func 107) #[] #[]] ∧ Row V (w.heap.size + 1) 201 [.int .i64 0, .int .i64 0, .int .i64 0, .int .i64 0] ∧ (∃ u v, Row V (w.heap.size + 1 + 1) 201 [u, v, .int .i64 0, .int .i64 0]) ∧ Below w.heap.size w V) (by kernel_rfl) ?_ (fun hHeld => ?_)
      · exact ⟨(HS2.out.1).drew, (HS2.out.2.1).drew, (HS2.out.2.2.1).drew, (HS2.out.2.2.2.1), (HS2.out.2.2.2.2).drew⟩
      refine wpAnyH_take (i := 0) (oi := ⟨some 11, _, _, _, _, _⟩) (v := ?_) rfl (by kernel_rfl) (by kernel_rfl) (by kernel_rfl) (fun _ _ _ h => h) (Or.inl ⟨by kernel_rfl, ?_⟩) hHeld ?_
      rotate_left
      · intro w1 hSw; (try dsimp only at hSw); go_simp <;> with_reducible rfl
      try simp only [Act.put, List.setIfInBounds_toArray, List.set_cons_zero, List.set_cons_succ]
      refine wpAnyH_take (i := 1) (oi := ⟨some 12, _, _, _, _, _⟩) (v := ?_) rfl (by kernel_rfl) (by kernel_rfl) (by kernel_rfl) (fun _ _ _ h => h) (Or.inl ⟨by kernel_rfl, ?_⟩) hHeld ?_
      rotate_left
      · intro w1 hSw; (try dsimp only at hSw); go_simp <;> with_reducible rfl
      try simp only [Act.put, List.setIfInBounds_toArray, List.set_cons_zero, List.set_cons_succ]
      refine wpAnyH_take (i := 2) (oi := ⟨some 13, _, _, _, _, _⟩) (v := ?_) rfl (by kernel_rfl) (by kernel_rfl) (by kernel_rfl) (fun _ _ _ h => h) (Or.inl ⟨by kernel_rfl, ?_⟩) hHeld ?_
      rotate_left
      · intro w1 hSw; (try dsimp only at hSw); have cc := (hSw.2.1).cell 4; simp only [List.getElem?_cons_succ, List.getElem?_cons_zero] at cc; go_simp <;> with_reducible rfl
      try simp only [Act.put, List.setIfInBounds_toArray, List.set_cons_zero, List.set_cons_succ]
      refine wpAnyH_take (i := 3) (oi := ⟨some 14, _, _, _, _, _⟩) (v := .agg #[.int .i64 a, .int .i64 b, .int .i64 c, .int .i64 d, .int .i64 x, .int .i64 y]) rfl (by kernel_rfl) (by kernel_rfl) (by kernel_rfl) (fun _ _ _ h => h) (Or.inl ⟨by kernel_rfl, fun V hV => ex_rowT 34 _ rfl (w.heap.size) rfl 34 [.int .i64 a, .int .i64 b, .int .i64 c, .int .i64 d, .int .i64 x, .int .i64 y] _ Tryz.underlying34 rfl (by kernel_rfl) (hV.1)⟩) hHeld ?_
      try simp only [Act.put, List.setIfInBounds_toArray, List.set_cons_zero, List.set_cons_succ]
      refine wpAnyH_take (i := 5) (oi := ⟨some 16, _, _, _, _, _⟩) (v := ?_) rfl (by kernel_rfl) (by kernel_rfl) (by kernel_rfl) (fun _ _ _ h => h) (Or.inl ⟨by kernel_rfl, ?_⟩) hHeld ?_
      rotate_left
      · intro w1 hSw; (try dsimp only at hSw); go_simp <;> with_reducible rfl
      try simp only [Act.put, List.setIfInBounds_toArray, List.set_cons_zero, List.set_cons_succ]
      refine wpAnyH_take (i := 6) (oi := ⟨some 17, _, _, _, _, _⟩) (v := .agg #[.int .i64 a, .int .i64 b]) rfl (by kernel_rfl) (by kernel_rfl) (by kernel_rfl) (fun _ _ _ h => h) (Or.inl ⟨by kernel_rfl, fun V hV => ex_Gauss _ rfl (w.heap.size) 0 rfl ((hV.1).cell 0) ((hV.1).cell 1)⟩) hHeld ?_
      try simp only [Act.put, List.setIfInBounds_toArray, List.set_cons_zero, List.set_cons_succ]
      refine wpAnyH_take (i := 8) (oi := ⟨some 19, _, _, _, _, _⟩) (v := .agg #[.int .i64 a, .int .i64 b, .int .i64 c, .int .i64 d, .int .i64 x, .int .i64 y]) rfl (by kernel_rfl) (by kernel_rfl) (by kernel_rfl) (fun _ _ _ h => h) (Or.inl ⟨by kernel_rfl, fun V hV => ex_rowT 34 _ rfl (w.heap.size) rfl 34 [.int .i64 a, .int .i64 b, .int .i64 c, .int .i64 d, .int .i64 x, .int .i64 y] _ Tryz.underlying34 rfl (by kernel_rfl) (hV.1)⟩) hHeld ?_
      try simp only [Act.put, List.setIfInBounds_toArray, List.set_cons_zero, List.set_cons_succ]
      refine wpAnyH_ready (rs := [4]) (by kernel_rfl) (by simp) ?_
      refine AllReadyH.cons rfl (fun K hK => ?_) AllReadyH.nil
      go_simp
      go_at_call 107
      refine (tone1_any a b c d x y _).mono ?_
      rintro e v4 ⟨rfl, hb4⟩
      try go_simp
      refine hK.out _ _ ?_ (fun hHeld => ?_)
      · exact ⟨(hHeld.1).old hb4, (hHeld.2.1).old hb4, (hHeld.2.2.1).old hb4, (exR (hHeld.2.2.2.1) fun hh => hh.old hb4), (hHeld.2.2.2.2).trans ((hb4).mono (hHeld.2.2.2.2).size)⟩
      clear hK K
      try simp only [Act.put, List.setIfInBounds_toArray, List.set_cons_zero, List.set_cons_succ]
      refine wpAnyH_ready (rs := [7]) (by kernel_rfl) (by simp) ?_
      refine AllReadyH.cons rfl (fun K hK => ?_) AllReadyH.nil
      go_simp
      go_at_call 136
      refine (HA0.out _).mono ?_
      rintro e v7 ⟨rfl, hb7⟩
      try go_simp
      refine hK.out _ _ ?_ (fun hHeld => ?_)
      · exact ⟨(hHeld.1).old hb7, (hHeld.2.1).old hb7, (hHeld.2.2.1).old hb7, (exR (hHeld.2.2.2.1) fun hh => hh.old hb7), (hHeld.2.2.2.2).trans ((hb7).mono (hHeld.2.2.2.2).size)⟩
      clear hK K
      try simp only [Act.put, List.setIfInBounds_toArray, List.set_cons_zero, List.set_cons_succ]
      refine wpAnyH_ready (rs := [9]) (by kernel_rfl) (by simp) ?_
      refine AllReadyH.cons rfl (fun K hK => ?_) AllReadyH.nil
      go_simp
      go_at_call 137
      refine (HSQ.out _).mono ?_
      rintro e v9 ⟨rfl, hb9⟩
      try go_simp
      refine hK.out _ _ ?_ (fun hHeld => ?_)
      · exact ⟨(hHeld.1).old hb9, (hHeld.2.1).old hb9, (hHeld.2.2.1).old hb9, (exR (hHeld.2.2.2.1) fun hh => hh.old hb9), (hHeld.2.2.2.2).trans ((hb9).mono (hHeld.2.2.2.2).size)⟩
      clear hK K
      try simp only [Act.put, List.setIfInBounds_toArray, List.set_cons_zero, List.set_cons_succ]
      refine wpAnyH_take (i := 10) (oi := ⟨some 21, _, _, _, _, _⟩) (v := ?_) rfl (by kernel_rfl) (by kernel_rfl) (by kernel_rfl) (fun _ _ _ h => h) (Or.inl ⟨by kernel_rfl, ?_⟩) hHeld ?_
      rotate_left
      · intro w1 hSw; (try dsimp only at hSw); go_simp <;> with_reducible rfl
      try simp only [Act.put, List.setIfInBounds_toArray, List.set_cons_zero, List.set_cons_succ]
      refine wpAnyH_take (i := 11) (oi := ⟨some 22, _, _, _, _, _⟩) (v := ?_) rfl (by kernel_rfl) (by kernel_rfl) (by kernel_rfl) (fun _ _ _ h => h) (Or.inl ⟨by kernel_rfl, ?_⟩) hHeld ?_
      rotate_left
      · intro w1 hSw; (try dsimp only at hSw); go_simp <;> with_reducible rfl
      try simp only [Act.put, List.setIfInBounds_toArray, List.set_cons_zero, List.set_cons_succ]
      refine wpAnyH_ready (rs := [12]) (by kernel_rfl) (by simp) ?_
      refine AllReadyH.cons rfl (fun K hK => ?_) AllReadyH.nil
      obtain ⟨u, v, hR⟩ := hHeld.2.2.2.1
      have q0 := hR.cell 0
      have q1 := hR.cell 1
      have f0 := hR.free 0
      have f1 := hR.free 1
      simp only [List.getElem?_cons_succ, List.getElem?_cons_zero] at q0 q1
      go_simp
      have hR2 := (hR.set 0 (.int .i64 N0)).set 1 (.int .i64 Q)
      have hw1 := (hHeld.1.far1 (h := w.heap.size + 1 + 1) (by omega) 0 (.int .i64 N0)).far1 (h := w.heap.size + 1 + 1) (by omega) 1 (.int .i64 Q)
      have hw2 := (hHeld.2.1.far1 (h := w.heap.size + 1 + 1) (by have := HG.out; omega) 0 (.int .i64 N0)).far1 (h := w.heap.size + 1 + 1) (by have := HG.out; omega) 1 (.int .i64 Q)
      have hw3 := (hHeld.2.2.1.far1 (h := w.heap.size + 1 + 1) (by omega) 0 (.int .i64 N0)).far1 (h := w.heap.size + 1 + 1) (by omega) 1 (.int .i64 Q)
      have hw4 := (hHeld.2.2.2.2.setCell (p := ⟨w.heap.size + 1 + 1, 0, none⟩) (by show w.heap.size ≤ w.heap.size + 1 + 1; omega) (.int .i64 N0)).setCell (p := ⟨w.heap.size + 1 + 1, 1, none⟩) (by show w.heap.size ≤ w.heap.size + 1 + 1; omega) (.int .i64 Q)
      refine hK.out _ _ ?_ (fun hHeld => ?_)
      · exact ⟨hw1, hw2, hw3, ⟨_, _, hR2⟩, hw4⟩
      clear hK K
      try simp only [Act.put, List.setIfInBounds_toArray, List.set_cons_zero, List.set_cons_succ]
      refine wpAnyH_done (by kernel_rfl) ?_ _
      go_wp2_with fail
      go_roundg 1
      case measure => omega
      case rel => exact .inr (.inl ⟨rfl, rfl, ⟨hw1, hw3, hR2, hw4⟩⟩)
    · clear HA0
      have HG : Hid (w.heap.size + 1 + 1 < wr.heap.size) := HS.out.2.2.1.lt
      go_upto_region 5 with (refine wpList_store_row rfl 123 _ _ rfl wr.heap.size #[.int .i64 1, .int .i64 (-1), .int .i64 1, .int .i64 (-1), .func (.func 108) #[] #[]] rfl rfl 123 _ (Row.new wr 123 [.int .i64 0, .int .i64 0, .int .i64 0, .int .i64 0, .nilFunc]) ?_ ?_ ?_ ?_; (kernel_rfl); (rfl); (simp [Value.oneCell']))
      refine genT (fun V => Row V (w.heap.size) 34 [.int .i64 a, .int .i64 b, .int .i64 c, .int .i64 d, .int .i64 x, .int .i64 y] ∧ Row V (wr.heap.size) 123 [.int .i64 1, .int .i64 (-1), .int .i64 1, .int .i64 (-1), .func (.func 108) #[] #[]] ∧ Row V (w.heap.size + 1) 201 [.int .i64 0, .int .i64 0, .int .i64 0, .int .i64 0] ∧ (∃ u v, Row V (w.heap.size + 1 + 1) 201 [.int .i64 N0, .int .i64 Q, u, v]) ∧ Below w.heap.size w V) (let h := dpNew (t := 123) (L1 := [.int .i64 0, .int .i64 0, .int .i64 0, .int .i64 0, .nilFunc]) (L2 := [.int .i64 1, .int .i64 (-1), .int .i64 1, .int .i64 (-1), .func (.func 108) #[] #[]]) HS.out; ⟨h.1, h.2.1, h.2.2.1, ⟨_, _, h.2.2.2.1⟩, h.2.2.2.2⟩) ?_
      intro W2 s2
      have HS2 := Lib.hid s2
      clear s2 HS
      refine wp_region_held_drew (S := fun V => Row V (w.heap.size) 34 [.int .i64 a, .int .i64 b, .int .i64 c, .int .i64 d, .int .i64 x, .int .i64 y] ∧ Row V (wr.heap.size) 123 [.int .i64 1, .int .i64 (-1), .int .i64 1, .int .i64 (-1), .func (.func 108) #[] #[]] ∧ Row V (w.heap.size + 1) 201 [.int .i64 0, .int .i64 0, .int .i64 0, .int .i64 0] ∧ (∃ u v, Row V (w.heap.size + 1 + 1) 201 [.int .i64 N0, .int .i64 Q, u, v]) ∧ Below w.heap.size w V) (by kernel_rfl) ?_ (fun hHeld => ?_)
      · exact ⟨(HS2.out.1).drew, (HS2.out.2.1).drew, (HS2.out.2.2.1).drew, (HS2.out.2.2.2.1), (HS2.out.2.2.2.2).drew⟩
      refine wpAnyH_take (i := 0) (oi := ⟨some 11, _, _, _, _, _⟩) (v := ?_) rfl (by kernel_rfl) (by kernel_rfl) (by kernel_rfl) (fun _ _ _ h => h) (Or.inl ⟨by kernel_rfl, ?_⟩) hHeld ?_
      rotate_left
      · intro w1 hSw; (try dsimp only at hSw); go_simp <;> with_reducible rfl
      try simp only [Act.put, List.setIfInBounds_toArray, List.set_cons_zero, List.set_cons_succ]
      refine wpAnyH_take (i := 1) (oi := ⟨some 12, _, _, _, _, _⟩) (v := ?_) rfl (by kernel_rfl) (by kernel_rfl) (by kernel_rfl) (fun _ _ _ h => h) (Or.inl ⟨by kernel_rfl, ?_⟩) hHeld ?_
      rotate_left
      · intro w1 hSw; (try dsimp only at hSw); go_simp <;> with_reducible rfl
      try simp only [Act.put, List.setIfInBounds_toArray, List.set_cons_zero, List.set_cons_succ]
      refine wpAnyH_take (i := 2) (oi := ⟨some 13, _, _, _, _, _⟩) (v := ?_) rfl (by kernel_rfl) (by kernel_rfl) (by kernel_rfl) (fun _ _ _ h => h) (Or.inl ⟨by kernel_rfl, ?_⟩) hHeld ?_
      rotate_left
      · intro w1 hSw; (try dsimp only at hSw); have cc := (hSw.2.1).cell 4; simp only [List.getElem?_cons_succ, List.getElem?_cons_zero] at cc; go_simp <;> with_reducible rfl
      try simp only [Act.put, List.setIfInBounds_toArray, List.set_cons_zero, List.set_cons_succ]
      refine wpAnyH_take (i := 3) (oi := ⟨some 14, _, _, _, _, _⟩) (v := .agg #[.int .i64 a, .int .i64 b, .int .i64 c, .int .i64 d, .int .i64 x, .int .i64 y]) rfl (by kernel_rfl) (by kernel_rfl) (by kernel_rfl) (fun _ _ _ h => h) (Or.inl ⟨by kernel_rfl, fun V hV => ex_rowT 34 _ rfl (w.heap.size) rfl 34 [.int .i64 a, .int .i64 b, .int .i64 c, .int .i64 d, .int .i64 x, .int .i64 y] _ Tryz.underlying34 rfl (by kernel_rfl) (hV.1)⟩) hHeld ?_
      try simp only [Act.put, List.setIfInBounds_toArray, List.set_cons_zero, List.set_cons_succ]
      refine wpAnyH_take (i := 5) (oi := ⟨some 16, _, _, _, _, _⟩) (v := ?_) rfl (by kernel_rfl) (by kernel_rfl) (by kernel_rfl) (fun _ _ _ h => h) (Or.inl ⟨by kernel_rfl, ?_⟩) hHeld ?_
      rotate_left
      · intro w1 hSw; (try dsimp only at hSw); go_simp <;> with_reducible rfl
      try simp only [Act.put, List.setIfInBounds_toArray, List.set_cons_zero, List.set_cons_succ]
      refine wpAnyH_take (i := 6) (oi := ⟨some 17, _, _, _, _, _⟩) (v := .agg #[.int .i64 a, .int .i64 b]) rfl (by kernel_rfl) (by kernel_rfl) (by kernel_rfl) (fun _ _ _ h => h) (Or.inl ⟨by kernel_rfl, fun V hV => ex_Gauss _ rfl (w.heap.size) 0 rfl ((hV.1).cell 0) ((hV.1).cell 1)⟩) hHeld ?_
      try simp only [Act.put, List.setIfInBounds_toArray, List.set_cons_zero, List.set_cons_succ]
      refine wpAnyH_take (i := 8) (oi := ⟨some 19, _, _, _, _, _⟩) (v := .agg #[.int .i64 a, .int .i64 b, .int .i64 c, .int .i64 d, .int .i64 x, .int .i64 y]) rfl (by kernel_rfl) (by kernel_rfl) (by kernel_rfl) (fun _ _ _ h => h) (Or.inl ⟨by kernel_rfl, fun V hV => ex_rowT 34 _ rfl (w.heap.size) rfl 34 [.int .i64 a, .int .i64 b, .int .i64 c, .int .i64 d, .int .i64 x, .int .i64 y] _ Tryz.underlying34 rfl (by kernel_rfl) (hV.1)⟩) hHeld ?_
      try simp only [Act.put, List.setIfInBounds_toArray, List.set_cons_zero, List.set_cons_succ]
      refine wpAnyH_ready (rs := [4]) (by kernel_rfl) (by simp) ?_
      refine AllReadyH.cons rfl (fun K hK => ?_) AllReadyH.nil
      go_simp
      go_at_call 108
      refine (tone2_any a b c d x y _).mono ?_
      rintro e v4 ⟨rfl, hb4⟩
      try go_simp
      refine hK.out _ _ ?_ (fun hHeld => ?_)
      · exact ⟨(hHeld.1).old hb4, (hHeld.2.1).old hb4, (hHeld.2.2.1).old hb4, (exR (hHeld.2.2.2.1) fun hh => hh.old hb4), (hHeld.2.2.2.2).trans ((hb4).mono (hHeld.2.2.2.2).size)⟩
      clear hK K
      try simp only [Act.put, List.setIfInBounds_toArray, List.set_cons_zero, List.set_cons_succ]
      refine wpAnyH_ready (rs := [7]) (by kernel_rfl) (by simp) ?_
      refine AllReadyH.cons rfl (fun K hK => ?_) AllReadyH.nil
      go_simp
      go_at_call 136
      refine (HA1.out _).mono ?_
      rintro e v7 ⟨rfl, hb7⟩
      try go_simp
      refine hK.out _ _ ?_ (fun hHeld => ?_)
      · exact ⟨(hHeld.1).old hb7, (hHeld.2.1).old hb7, (hHeld.2.2.1).old hb7, (exR (hHeld.2.2.2.1) fun hh => hh.old hb7), (hHeld.2.2.2.2).trans ((hb7).mono (hHeld.2.2.2.2).size)⟩
      clear hK K
      try simp only [Act.put, List.setIfInBounds_toArray, List.set_cons_zero, List.set_cons_succ]
      refine wpAnyH_ready (rs := [9]) (by kernel_rfl) (by simp) ?_
      refine AllReadyH.cons rfl (fun K hK => ?_) AllReadyH.nil
      go_simp
      go_at_call 137
      refine (HSQ.out _).mono ?_
      rintro e v9 ⟨rfl, hb9⟩
      try go_simp
      refine hK.out _ _ ?_ (fun hHeld => ?_)
      · exact ⟨(hHeld.1).old hb9, (hHeld.2.1).old hb9, (hHeld.2.2.1).old hb9, (exR (hHeld.2.2.2.1) fun hh => hh.old hb9), (hHeld.2.2.2.2).trans ((hb9).mono (hHeld.2.2.2.2).size)⟩
      clear hK K
      try simp only [Act.put, List.setIfInBounds_toArray, List.set_cons_zero, List.set_cons_succ]
      refine wpAnyH_take (i := 10) (oi := ⟨some 21, _, _, _, _, _⟩) (v := ?_) rfl (by kernel_rfl) (by kernel_rfl) (by kernel_rfl) (fun _ _ _ h => h) (Or.inl ⟨by kernel_rfl, ?_⟩) hHeld ?_
      rotate_left
      · intro w1 hSw; (try dsimp only at hSw); go_simp <;> with_reducible rfl
      try simp only [Act.put, List.setIfInBounds_toArray, List.set_cons_zero, List.set_cons_succ]
      refine wpAnyH_take (i := 11) (oi := ⟨some 22, _, _, _, _, _⟩) (v := ?_) rfl (by kernel_rfl) (by kernel_rfl) (by kernel_rfl) (fun _ _ _ h => h) (Or.inl ⟨by kernel_rfl, ?_⟩) hHeld ?_
      rotate_left
      · intro w1 hSw; (try dsimp only at hSw); go_simp <;> with_reducible rfl
      try simp only [Act.put, List.setIfInBounds_toArray, List.set_cons_zero, List.set_cons_succ]
      refine wpAnyH_ready (rs := [12]) (by kernel_rfl) (by simp) ?_
      refine AllReadyH.cons rfl (fun K hK => ?_) AllReadyH.nil
      obtain ⟨u, v, hR⟩ := hHeld.2.2.2.1
      have q0 := hR.cell 2
      have q1 := hR.cell 3
      have f0 := hR.free 2
      have f1 := hR.free 3
      simp only [List.getElem?_cons_succ, List.getElem?_cons_zero] at q0 q1
      go_simp
      have hR2 := (hR.set 2 (.int .i64 N1)).set 3 (.int .i64 Q)
      have hw1 := (hHeld.1.far1 (h := w.heap.size + 1 + 1) (by omega) 2 (.int .i64 N1)).far1 (h := w.heap.size + 1 + 1) (by omega) 3 (.int .i64 Q)
      have hw2 := (hHeld.2.1.far1 (h := w.heap.size + 1 + 1) (by have := HG.out; omega) 2 (.int .i64 N1)).far1 (h := w.heap.size + 1 + 1) (by have := HG.out; omega) 3 (.int .i64 Q)
      have hw3 := (hHeld.2.2.1.far1 (h := w.heap.size + 1 + 1) (by omega) 2 (.int .i64 N1)).far1 (h := w.heap.size + 1 + 1) (by omega) 3 (.int .i64 Q)
      have hw4 := (hHeld.2.2.2.2.setCell (p := ⟨w.heap.size + 1 + 1, 2, none⟩) (by show w.heap.size ≤ w.heap.size + 1 + 1; omega) (.int .i64 N1)).setCell (p := ⟨w.heap.size + 1 + 1, 3, none⟩) (by show w.heap.size ≤ w.heap.size + 1 + 1; omega) (.int .i64 Q)
      refine hK.out _ _ ?_ (fun hHeld => ?_)
      · exact ⟨hw1, hw2, hw3, ⟨_, _, hR2⟩, hw4⟩
      clear hK K
      try simp only [Act.put, List.setIfInBounds_toArray, List.set_cons_zero, List.set_cons_succ]
      refine wpAnyH_done (by kernel_rfl) ?_ _
      go_wp2_with fail
      go_roundg 0
      case measure => omega
      case rel => exact .inr (.inr ⟨rfl, rfl, ⟨hw1, hw3, hR2, hw4⟩⟩)
    · clear HA0 HA1 HSQ
      go_wp2_with (first
        | (refine wpList_load_row rfl 201 _ rfl (w.heap.size + 1 + 1) rfl 201 #[.int .i64 N0, .int .i64 Q, .int .i64 N1, .int .i64 Q] (0, 0) _ HS.out.2.2.1 Tryz.underlying201 rfl ?_ ?_; (kernel_rfl))
        | (refine wpList_store_row rfl 201 _ _ rfl (w.heap.size + 1) #[.int .i64 N0, .int .i64 Q, .int .i64 N1, .int .i64 Q] rfl rfl 201 _ HS.out.2.1 ?_ ?_ ?_ ?_; (kernel_rfl); (rfl); (simp [Value.oneCell'])))
      refine bodyPost_ret (results_rowA rfl _ _ (w.heap.size + 1) 201 #[.int .i64 N0, .int .i64 Q, .int .i64 N1, .int .i64 Q] (0, 0) _ rfl (HS.out.2.1.setRow [.int .i64 N0, .int .i64 Q, .int .i64 N1, .int .i64 Q]) Tryz.underlying201 rfl (by kernel_rfl)) rfl ⟨rfl, Below.setRow HS.out.2.2.2 (by omega) _⟩
theorem Gs.along {a b c d : Int} (h : Gs a b) (k : Gs c d) : (a * c + b * d).natAbs ≤ 5000000000000000 := by
  have b1 : (a * c).natAbs ≤ 2500000000000000 := by rw [Int.natAbs_mul]; exact Nat.mul_le_mul h.1 k.1
  have b2 : (b * d).natAbs ≤ 2500000000000000 := by rw [Int.natAbs_mul]; exact Nat.mul_le_mul h.2 k.2
  omega
set_option maxRecDepth 100000 in
set_option maxHeartbeats 1000000 in
theorem ratioQ_any (n d : Int) (w : World) (hn : Bd n) (hd : 0 < d ∧ d ≤ 9223372036854775807) : Calls Tryz.prog 47 #[.agg #[.int .i64 n, .int .i64 d]] w fun e w' => e = .returned (.agg #[.int .i64 (n.tdiv (gcdI n d)), .int .i64 (d / gcdI n d)]) ∧ Below w.heap.size w w' := by
  obtain ⟨p, hp⟩ : ∃ p, p = n.tdiv (gcdI n d) := ⟨_, rfl⟩
  obtain ⟨q, hq⟩ : ∃ q, q = d / gcdI n d := ⟨_, rfl⟩
  have HR : Hid (∀ W, Calls Tryz.prog 106 #[.int .i64 n, .int .i64 d] W fun e w' => e = .returned (.agg #[.int .i64 p, .int .i64 q]) ∧ Below W.heap.size W w') := fun W => by rw [hp, hq]; exact ratio_any n d W hn hd
  rw [← hp, ← hq]
  clear hp hq hn hd
  go_enter Tryz.func47, Tryz.ntmps47
  go_upto_region 1 with fail
  refine genT (fun V => Row V w.heap.size 115 [.int .i64 n, .int .i64 d] ∧ Row V (w.heap.size + 1) 40 [.int .i64 0, .int .i64 0] ∧ Below w.heap.size w V) ⟨(Row.new w _ [.int .i64 n, .int .i64 d]).alloc _, row2, ((Below.refl _ _).alloc (Nat.le_refl _) _).alloc (by simp) _⟩ ?_
  intro W1 s1
  have HS1 := Lib.hid s1
  clear s1
  have c0 := HS1.out.1.cell 0
  have c1 := HS1.out.1.cell 1
  simp only [List.getElem?_cons_succ, List.getElem?_cons_zero] at c0 c1
  go_wp2_with (first
    | (go_at_call 106; refine (HR.out _).mono ?_; rintro e w2 ⟨rfl, hb2⟩; have HS2 : Hid (Row w2 (w.heap.size + 1) 40 [.int .i64 0, .int .i64 0] ∧ Below w.heap.size w w2) := ⟨HS1.out.2.1.old hb2, HS1.out.2.2.trans (hb2.mono HS1.out.2.2.size)⟩; clear hb2)
    | (refine wpList_store_row rfl 40 _ _ rfl (w.heap.size + 1) #[.int .i64 p, .int .i64 q] rfl rfl 40 _ HS2.out.1 ?_ ?_ ?_ ?_; (kernel_rfl); (rfl); (simp [Value.oneCell'])))
  refine bodyPost_ret (results_rowA rfl _ _ (w.heap.size + 1) 40 #[.int .i64 p, .int .i64 q] (0, 0) _ rfl (HS2.out.1.setRow [.int .i64 p, .int .i64 q]) Tryz.underlying40 rfl (by kernel_rfl)) rfl ⟨rfl, Below.setRow HS2.out.2 (by omega) _⟩
set_option maxRecDepth 100000 in
set_option maxHeartbeats 1000000 in
theorem needle_any (a b c d x y : Int) (w : World) (h1 : Gs a b) (h2 : Gs c d) (h3 : Gs x y) : Calls Tryz.prog 46 #[.agg #[.int .i64 a, .int .i64 b, .int .i64 c, .int .i64 d, .int .i64 x, .int .i64 y]] w fun e w' => e = .returned (.agg #[.int .i64 (c * a + d * b - (x * a + y * b)), .int .i64 (a * a + b * b)]) ∧ Below w.heap.size w w' := by
  have k1 := h2.along h1; have k2 := h3.along h1
  obtain ⟨N0, hN0⟩ : ∃ N0, N0 = c * a + d * b := ⟨_, rfl⟩
  obtain ⟨N1, hN1⟩ : ∃ N1, N1 = x * a + y * b := ⟨_, rfl⟩
  obtain ⟨Q, hQ⟩ : ∃ Q, Q = a * a + b * b := ⟨_, rfl⟩
  have HD : Hid (∀ W, Calls Tryz.prog 105 #[.agg #[.int .i64 a, .int .i64 b, .int .i64 c, .int .i64 d, .int .i64 x, .int .i64 y]] W fun e w' => e = .returned (.agg #[.int .i64 N0, .int .i64 Q, .int .i64 N1, .int .i64 Q]) ∧ Below W.heap.size W w') := fun W => by rw [hN0, hN1, hQ]; exact depths_any a b c d x y W h1 h2 h3
  rw [← hN0] at k1 ⊢
  rw [← hN1] at k2 ⊢
  rw [← hQ]
  obtain ⟨M, hM⟩ : ∃ M, M = N0 - N1 := ⟨_, rfl⟩
  have e1 : IntKind.i64.wrap (N0 - N1) = M := by rw [hM]; exact IntWalk.i64_in _ (by omega)
  rw [← hM]
  clear hN0 hN1 hQ h1 h2 h3 k1 k2 hM
  go_enter Tryz.func46, Tryz.ntmps46
  go_upto_region 1 with fail
  refine genT (fun V => Row V w.heap.size 34 [.int .i64 a, .int .i64 b, .int .i64 c, .int .i64 d, .int .i64 x, .int .i64 y] ∧ Row V (w.heap.size + 1) 115 [.int .i64 0, .int .i64 0] ∧ Below w.heap.size w V) ⟨(Row.new w _ [.int .i64 a, .int .i64 b, .int .i64 c, .int .i64 d, .int .i64 x, .int .i64 y]).alloc _, row2, ((Below.refl _ _).alloc (Nat.le_refl _) _).alloc (by simp) _⟩ ?_
  intro W1 s1
  have HS1 := Lib.hid s1
  clear s1
  go_upto_region 2 with (first
    | (refine wpList_load_row rfl 34 _ rfl (w.heap.size) rfl 34 #[.int .i64 a, .int .i64 b, .int .i64 c, .int .i64 d, .int .i64 x, .int .i64 y] (0, 0) _ HS1.out.1 Tryz.underlying34 rfl ?_ ?_; (kernel_rfl))
    | (go_at_call 105; refine (HD.out _).mono ?_; rintro e w2 ⟨rfl, hb2⟩; have HS2 : Hid (Row w2 (w.heap.size + 1) 115 [.int .i64 0, .int .i64 0] ∧ Below w.heap.size w w2) := ⟨HS1.out.2.1.old hb2, HS1.out.2.2.trans (hb2.mono HS1.out.2.2.size)⟩; clear hb2)
    | (refine wpList_store_row rfl 201 _ _ rfl (w2.heap.size) #[.int .i64 N0, .int .i64 Q, .int .i64 N1, .int .i64 Q] rfl rfl 201 _ (Row.new w2 201 [.int .i64 0, .int .i64 0, .int .i64 0, .int .i64 0]) ?_ ?_ ?_ ?_; (kernel_rfl); (rfl); (simp [Value.oneCell'])))
  have hlt : w.heap.size + 1 < w2.heap.size := HS2.out.1.lt
  have hbn : Below w2.heap.size w2 ((w2.alloc (.cells #[.int .i64 0, .int .i64 0, .int .i64 0, .int .i64 0] 201)).setRow w2.heap.size #[.int .i64 N0, .int .i64 Q, .int .i64 N1, .int .i64 Q]) := Below.setRow ((Below.refl _ _).alloc (Nat.le_refl _) _) (Nat.le_refl _) _
  refine genT (fun V => Row V w2.heap.size 201 [.int .i64 N0, .int .i64 Q, .int .i64 N1, .int .i64 Q] ∧ Row V (w.heap.size + 1) 115 [.int .i64 0, .int .i64 0] ∧ Below w.heap.size w V) ⟨(Row.new w2 201 [.int .i64 0, .int .i64 0, .int .i64 0, .int .i64 0]).setRow _, HS2.out.1.old hbn, HS2.out.2.trans (hbn.mono HS2.out.2.size)⟩ ?_
  clear hbn hlt
  intro W3 s3
  have HS3 := Lib.hid s3
  clear s3 HS1 HS2
  have c0 := HS3.out.1.cell 0
  have c1 := HS3.out.1.cell 1
  have c2 := HS3.out.1.cell 2
  simp only [List.getElem?_cons_succ, List.getElem?_cons_zero] at c0 c1 c2
  go_wp2_with (refine wpList_store_row rfl 115 _ _ rfl (w.heap.size + 1) #[.int .i64 M, .int .i64 Q] rfl rfl 115 _ HS3.out.2.1 ?_ ?_ ?_ ?_; (kernel_rfl); (rfl); (simp [Value.oneCell']))
  refine bodyPost_ret (results_rowA rfl _ _ (w.heap.size + 1) 115 #[.int .i64 M, .int .i64 Q] (0, 0) _ rfl (HS3.out.2.1.setRow [.int .i64 M, .int .i64 Q]) Tryz.underlying115 rfl (by kernel_rfl)) rfl ⟨rfl, Below.setRow HS3.out.2.2 (by omega) _⟩
end Go.Proofs.YtlflfieknibgmaaGreatDoor
