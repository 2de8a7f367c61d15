import Derived.Test.YtphgfiihccofnaaGreatDoorM33
import Derived.Test.YtphgfiihccofnaaGreatDoorM40
import Derived.Test.YtphgfiihccofnaaGreatDoorM41
/- Contracts: two recordings joined by the reference. -/
namespace Go.Proofs.YtphgfiihccofnaaGreatDoor
set_option linter.all false
open Go.RowKit Go.Fl
set_option linter.unusedVariables false
set_option linter.unusedSimpArgs false
def jA := @List.setIfInBounds_toArray
def jB := @List.set_cons_zero
def jC := @List.set_cons_succ

set_option maxRecDepth 100000 in
set_option maxHeartbeats 4000000 in
theorem joinedR_bad (st sp : Int) (A1 B1 A2 B2 : Option Addr) (c1 d1 c2 d2 : Nat) (xs ys : List Nat) (ms ns : List (Int × ByteArray)) (st2 sp2 : Int) (w : World) (hA1 : Rd w A1 (flts xs)) (hB1 : Rd w B1 (markC ms)) (hA2 : Rd w A2 (flts ys)) (hB2 : Rd w B2 (markC ns)) (hx : xs.length ≤ 1000000) (hy : ys.length ≤ 1000000) (hms : ms.length ≤ 1000000) (hns : ns.length ≤ 1000000) (hE : firstI (pairE st sp xs.length ms.length st2 sp2 ys.length ns.length) ≠ 0) :
    Calls Tryz.prog 20 #[.agg #[.int .i64 st, .int .i64 sp, .slice A1 xs.length c1, .slice B1 ms.length d1], .agg #[.int .i64 st2, .int .i64 sp2, .slice A2 ys.length c2, .slice B2 ns.length d2]] w fun e w' => e = .returned (.tuple #[.agg #[.int .i64 0, .int .i64 0, .slice none 0 0, .slice none 0 0], .int .i64 (firstI (pairE st sp xs.length ms.length st2 sp2 ys.length ns.length))]) ∧ Below w.heap.size w w' := by
  have HA1 := Lib.hid hA1; have HB1 := Lib.hid hB1; have HA2 := Lib.hid hA2; have HB2 := Lib.hid hB2
  obtain ⟨ti, hti⟩ : ∃ ti, ti = tickI st sp xs.length := ⟨_, rfl⟩
  obtain ⟨EE, hEE⟩ : ∃ EE, EE = firstI (pairE st sp xs.length ms.length st2 sp2 ys.length ns.length) := ⟨_, rfl⟩
  have HTI := Lib.hid hti
  have HEE : Hid (EE = firstI [whenI (sp != sp2) 2, whenI (st2 != ti) 11, whenI (decide ((4096 : Int) < (xs.length : Int) + (ys.length : Int))) 5, whenI (decide ((16 : Int) < (ms.length : Int) + (ns.length : Int))) 5]) := by
    unfold Hid; rw [hEE, pairE, hti]
  have eT2 : wrap64 (st + wrap64 (sp * (xs.length : Int))) = ti := by rw [hti, tickI, Int.mul_comm]
  have eT1 : IntKind.i64.wrap (st + IntKind.i64.wrap (sp * (xs.length : Int))) = ti := by rw [IntWalk.i64_left, IntWalk.i64_left]; exact eT2
  have hxy1 : IntKind.i64.wrap ((xs.length : Int) + (ys.length : Int)) = (xs.length : Int) + (ys.length : Int) := IntWalk.i64_in _ (by omega)
  have hmn1 : IntKind.i64.wrap ((ms.length : Int) + (ns.length : Int)) = (ms.length : Int) + (ns.length : Int) := IntWalk.i64_in _ (by omega)
  have HE0 : (EE != 0) = true := by rw [hEE]; simpa using hE
  rw [← hEE]
  clear hA1 hB1 hA2 hB2 hti hEE hE
  have R0 := Row.new w 25 [.int .i64 st, .int .i64 sp, .slice A1 xs.length c1, .slice B1 ms.length d1]
  have R1 := Row.new (w.alloc (.cells #[.int .i64 st, .int .i64 sp, .slice A1 xs.length c1, .slice B1 ms.length d1] 25)) 25 [.int .i64 st2, .int .i64 sp2, .slice A2 ys.length c2, .slice B2 ns.length d2]
  have R2 := Row.new ((w.alloc (.cells #[.int .i64 st, .int .i64 sp, .slice A1 xs.length c1, .slice B1 ms.length d1] 25)).alloc (.cells #[.int .i64 st2, .int .i64 sp2, .slice A2 ys.length c2, .slice B2 ns.length d2] 25)) 25 zero4
  rw [World.size_alloc] at R1
  rw [World.size_alloc, World.size_alloc] at R2
  have R0' := (R0.alloc (.cells #[.int .i64 st2, .int .i64 sp2, .slice A2 ys.length c2, .slice B2 ns.length d2] 25)).alloc (.cells zero4.toArray 25)
  have R1' := R1.alloc (.cells zero4.toArray 25)
  have RB := (((Below.refl w.heap.size w).alloc (Nat.le_refl _) (.cells #[.int .i64 st, .int .i64 sp, .slice A1 xs.length c1, .slice B1 ms.length d1] 25)).alloc (by simp) (.cells #[.int .i64 st2, .int .i64 sp2, .slice A2 ys.length c2, .slice B2 ns.length d2] 25)).alloc (by simp; omega) (.cells zero4.toArray 25)
  have HR0 := Lib.hid R0'; have HR1 := Lib.hid R1'; have HR2 := Lib.hid R2; have HRB := Lib.hid RB
  clear R0 R1 R2 R0' R1' RB
  go_enter Tryz.func20, Tryz.ntmps20
  go_upto_region 1 with fail
  refine genD (w0 := w) w.heap.size (w.heap.size + 1) (w.heap.size + 1 + 1) _ _ _ _ _ _ HR0.out HR1.out HR2.out HRB.out ?_
  clear HR0 HR1 HR2 HRB
  intro W R0 R1 R2 RB
  have G0 := Lib.hid R0; have G1 := Lib.hid R1; have G2 := Lib.hid R2; have GB := Lib.hid RB
  have q2 := R0.cell 2
  simp only [List.getElem?_cons_succ, List.getElem?_cons_zero] at q2
  clear R0 R1 R2 RB
  go_upto_region 2 with fail
  clear q2
  refine wp_region_held_drew (S := fun w' => w'.cell? ⟨w.heap.size, 0, none⟩ = some (.int .i64 st) ∧ w'.cell? ⟨w.heap.size, 1, none⟩ = some (.int .i64 sp) ∧ w'.cell? ⟨w.heap.size, 2, none⟩ = some (.slice A1 xs.length c1) ∧ w'.cell? ⟨w.heap.size, 3, none⟩ = some (.slice B1 ms.length d1) ∧ w'.cell? ⟨w.heap.size + 1, 0, none⟩ = some (.int .i64 st2) ∧ w'.cell? ⟨w.heap.size + 1, 1, none⟩ = some (.int .i64 sp2) ∧ w'.cell? ⟨w.heap.size + 1, 2, none⟩ = some (.slice A2 ys.length c2) ∧ w'.cell? ⟨w.heap.size + 1, 3, none⟩ = some (.slice B2 ns.length d2) ∧ Below W.heap.size W w') (by kernel_rfl) ?_ (fun hHeld => ?_)
  · exact ⟨G0.out.cell 0, G0.out.cell 1, G0.out.cell 2, G0.out.cell 3, G1.out.cell 0, G1.out.cell 1, G1.out.cell 2, G1.out.cell 3, (Below.refl _ _).drew⟩
  refine wpAnyH_take (i := 0) (oi := ⟨some 14, _, _, _, _, _⟩) (v := ?_) rfl (by kernel_rfl) (by kernel_rfl) (by kernel_rfl) (fun _ _ _ h => h) (Or.inl ⟨by kernel_rfl, ?_⟩) hHeld ?_
  rotate_left
  · intro w1 hSw; (try dsimp only at hSw); go_simp <;> with_reducible rfl
  try simp only [Act.put, jA, jB, jC]
  refine wpAnyH_take (i := 1) (oi := ⟨some 15, _, _, _, _, _⟩) (v := ?_) rfl (by kernel_rfl) (by kernel_rfl) (by kernel_rfl) (fun _ _ _ h => h) (Or.inl ⟨by kernel_rfl, ?_⟩) hHeld ?_
  rotate_left
  · intro w1 hSw; (try dsimp only at hSw); go_simp <;> with_reducible rfl
  try simp only [Act.put, jA, jB, jC]
  refine wpAnyH_take (i := 2) (oi := ⟨some 16, _, _, _, _, _⟩) (v := ?_) rfl (by kernel_rfl) (by kernel_rfl) (by kernel_rfl) (fun _ _ _ h => h) (Or.inl ⟨by kernel_rfl, ?_⟩) hHeld ?_
  rotate_left
  · intro w1 hSw; (try dsimp only at hSw); go_simp <;> with_reducible rfl
  try simp only [Act.put, jA, jB, jC]
  refine wpAnyH_take (i := 3) (oi := ⟨some 17, _, _, _, _, _⟩) (v := ?_) rfl (by kernel_rfl) (by kernel_rfl) (by kernel_rfl) (fun _ _ _ h => h) (Or.inl ⟨by kernel_rfl, ?_⟩) hHeld ?_
  rotate_left
  · intro w1 hSw; (try dsimp only at hSw); go_simp <;> with_reducible rfl
  try simp only [Act.put, jA, jB, jC]
  refine wpAnyH_take (i := 4) (oi := ⟨some 18, _, _, _, _, _⟩) (v := ?_) rfl (by kernel_rfl) (by kernel_rfl) (by kernel_rfl) (fun _ _ _ h => h) (Or.inl ⟨by kernel_rfl, ?_⟩) hHeld ?_
  rotate_left
  · intro w1 hSw; (try dsimp only at hSw); go_simp <;> with_reducible rfl
  try simp only [Act.put, jA, jB, jC]
  refine wpAnyH_take (i := 6) (oi := ⟨some 20, _, _, _, _, _⟩) (v := ?_) rfl (by kernel_rfl) (by kernel_rfl) (by kernel_rfl) (fun _ _ _ h => h) (Or.inl ⟨by kernel_rfl, ?_⟩) hHeld ?_
  rotate_left
  · intro w1 hSw; (try dsimp only at hSw); go_simp <;> with_reducible rfl
  try simp only [Act.put, jA, jB, jC]
  refine wpAnyH_take (i := 7) (oi := ⟨some 21, _, _, _, _, _⟩) (v := ?_) rfl (by kernel_rfl) (by kernel_rfl) (by kernel_rfl) (fun _ _ _ h => h) (Or.inl ⟨by kernel_rfl, ?_⟩) hHeld ?_
  rotate_left
  · intro w1 hSw; (try dsimp only at hSw); go_simp <;> with_reducible rfl
  try simp only [Act.put, jA, jB, jC]
  refine wpAnyH_take (i := 8) (oi := ⟨some 22, _, _, _, _, _⟩) (v := ?_) rfl (by kernel_rfl) (by kernel_rfl) (by kernel_rfl) (fun _ _ _ h => h) (Or.inl ⟨by kernel_rfl, ?_⟩) hHeld ?_
  rotate_left
  · intro w1 hSw; (try dsimp only at hSw); go_simp <;> with_reducible rfl
  try simp only [Act.put, jA, jB, jC]
  refine wpAnyH_take (i := 9) (oi := ⟨some 23, _, _, _, _, _⟩) (v := ?_) rfl (by kernel_rfl) (by kernel_rfl) (by kernel_rfl) (fun _ _ _ h => h) (Or.inl ⟨by kernel_rfl, ?_⟩) hHeld ?_
  rotate_left
  · intro w1 hSw; (try dsimp only at hSw); go_simp <;> with_reducible rfl
  try simp only [Act.put, jA, jB, jC]
  refine wpAnyH_take (i := 10) (oi := ⟨some 24, _, _, _, _, _⟩) (v := ?_) rfl (by kernel_rfl) (by kernel_rfl) (by kernel_rfl) (fun _ _ _ h => h) (Or.inl ⟨by kernel_rfl, ?_⟩) hHeld ?_
  rotate_left
  · intro w1 hSw; (try dsimp only at hSw); go_simp <;> with_reducible rfl
  try simp only [Act.put, jA, jB, jC]
  refine wpAnyH_take (i := 11) (oi := ⟨some 25, _, _, _, _, _⟩) (v := ?_) rfl (by kernel_rfl) (by kernel_rfl) (by kernel_rfl) (fun _ _ _ h => h) (Or.inl ⟨by kernel_rfl, ?_⟩) hHeld ?_
  rotate_left
  · intro w1 hSw; (try dsimp only at hSw); go_simp <;> with_reducible rfl
  try simp only [Act.put, jA, jB, jC]
  refine wpAnyH_take (i := 12) (oi := ⟨some 26, _, _, _, _, _⟩) (v := ?_) rfl (by kernel_rfl) (by kernel_rfl) (by kernel_rfl) (fun _ _ _ h => h) (Or.inl ⟨by kernel_rfl, ?_⟩) hHeld ?_
  rotate_left
  · intro w1 hSw; (try dsimp only at hSw); go_simp <;> with_reducible rfl
  try simp only [Act.put, jA, jB, jC]
  refine wpAnyH_take (i := 13) (oi := ⟨some 27, _, _, _, _, _⟩) (v := ?_) rfl (by kernel_rfl) (by kernel_rfl) (by kernel_rfl) (fun _ _ _ h => h) (Or.inl ⟨by kernel_rfl, ?_⟩) hHeld ?_
  rotate_left
  · intro w1 hSw; (try dsimp only at hSw); go_simp <;> with_reducible rfl
  try simp only [Act.put, jA, jB, jC]
  refine wpAnyH_take (i := 14) (oi := ⟨some 28, _, _, _, _, _⟩) (v := ?_) rfl (by kernel_rfl) (by kernel_rfl) (by kernel_rfl) (fun _ _ _ h => h) (Or.inl ⟨by kernel_rfl, ?_⟩) hHeld ?_
  rotate_left
  · intro w1 hSw; (try dsimp only at hSw); go_simp <;> with_reducible rfl
  try simp only [Act.put, jA, jB, jC]
  refine wpAnyH_take (i := 15) (oi := ⟨some 29, _, _, _, _, _⟩) (v := ?_) rfl (by kernel_rfl) (by kernel_rfl) (by kernel_rfl) (fun _ _ _ h => h) (Or.inl ⟨by kernel_rfl, ?_⟩) hHeld ?_
  rotate_left
  · intro w1 hSw; (try dsimp only at hSw); go_simp <;> with_reducible rfl
  try simp only [Act.put, jA, jB, jC]
  refine wpAnyH_take (i := 17) (oi := ⟨some 31, _, _, _, _, _⟩) (v := ?_) rfl (by kernel_rfl) (by kernel_rfl) (by kernel_rfl) (fun _ _ _ h => h) (Or.inl ⟨by kernel_rfl, ?_⟩) hHeld ?_
  rotate_left
  · intro w1 hSw; (try dsimp only at hSw); go_simp <;> with_reducible rfl
  try simp only [Act.put, jA, jB, jC]
  refine wpAnyH_take (i := 18) (oi := ⟨some 32, _, _, _, _, _⟩) (v := ?_) rfl (by kernel_rfl) (by kernel_rfl) (by kernel_rfl) (fun _ _ _ h => h) (Or.inl ⟨by kernel_rfl, ?_⟩) hHeld ?_
  rotate_left
  · intro w1 hSw; (try dsimp only at hSw); go_simp <;> with_reducible rfl
  try simp only [Act.put, jA, jB, jC]
  refine wpAnyH_take (i := 19) (oi := ⟨some 33, _, _, _, _, _⟩) (v := ?_) rfl (by kernel_rfl) (by kernel_rfl) (by kernel_rfl) (fun _ _ _ h => h) (Or.inl ⟨by kernel_rfl, ?_⟩) hHeld ?_
  rotate_left
  · intro w1 hSw; (try dsimp only at hSw); go_simp <;> with_reducible rfl
  try simp only [Act.put, jA, jB, jC]
  refine wpAnyH_take (i := 20) (oi := ⟨some 34, _, _, _, _, _⟩) (v := ?_) rfl (by kernel_rfl) (by kernel_rfl) (by kernel_rfl) (fun _ _ _ h => h) (Or.inl ⟨by kernel_rfl, ?_⟩) hHeld ?_
  rotate_left
  · intro w1 hSw; (try dsimp only at hSw); go_simp <;> with_reducible rfl
  try simp only [Act.put, jA, jB, jC]
  refine wpAnyH_take (i := 21) (oi := ⟨some 35, _, _, _, _, _⟩) (v := ?_) rfl (by kernel_rfl) (by kernel_rfl) (by kernel_rfl) (fun _ _ _ h => h) (Or.inl ⟨by kernel_rfl, ?_⟩) hHeld ?_
  rotate_left
  · intro w1 hSw; (try dsimp only at hSw); go_simp <;> with_reducible rfl
  try simp only [Act.put, jA, jB, jC]
  refine wpAnyH_take (i := 22) (oi := ⟨some 36, _, _, _, _, _⟩) (v := ?_) rfl (by kernel_rfl) (by kernel_rfl) (by kernel_rfl) (fun _ _ _ h => h) (Or.inl ⟨by kernel_rfl, ?_⟩) hHeld ?_
  rotate_left
  · intro w1 hSw; (try dsimp only at hSw); go_simp <;> with_reducible rfl
  try simp only [Act.put, jA, jB, jC]
  refine wpAnyH_take (i := 24) (oi := ⟨some 38, _, _, _, _, _⟩) (v := ?_) rfl (by kernel_rfl) (by kernel_rfl) (by kernel_rfl) (fun _ _ _ h => h) (Or.inl ⟨by kernel_rfl, ?_⟩) hHeld ?_
  rotate_left
  · intro w1 hSw; (try dsimp only at hSw); go_simp <;> with_reducible rfl
  try simp only [Act.put, jA, jB, jC]
  refine wpAnyH_take (i := 25) (oi := ⟨some 39, _, _, _, _, _⟩) (v := ?_) rfl (by kernel_rfl) (by kernel_rfl) (by kernel_rfl) (fun _ _ _ h => h) (Or.inl ⟨by kernel_rfl, ?_⟩) hHeld ?_
  rotate_left
  · intro w1 hSw; (try dsimp only at hSw); go_simp <;> with_reducible rfl
  try simp only [Act.put, jA, jB, jC]
  refine wpAnyH_take (i := 26) (oi := ⟨some 40, _, _, _, _, _⟩) (v := ?_) rfl (by kernel_rfl) (by kernel_rfl) (by kernel_rfl) (fun _ _ _ h => h) (Or.inl ⟨by kernel_rfl, ?_⟩) hHeld ?_
  rotate_left
  · intro w1 hSw; (try dsimp only at hSw); go_simp <;> with_reducible rfl
  try simp only [Act.put, jA, jB, jC]
  refine wpAnyH_take (i := 27) (oi := ⟨some 41, _, _, _, _, _⟩) (v := ?_) rfl (by kernel_rfl) (by kernel_rfl) (by kernel_rfl) (fun _ _ _ h => h) (Or.inl ⟨by kernel_rfl, ?_⟩) hHeld ?_
  rotate_left
  · intro w1 hSw; (try dsimp only at hSw); go_simp <;> with_reducible rfl
  try simp only [Act.put, jA, jB, jC]
  refine wpAnyH_take (i := 28) (oi := ⟨some 42, _, _, _, _, _⟩) (v := ?_) rfl (by kernel_rfl) (by kernel_rfl) (by kernel_rfl) (fun _ _ _ h => h) (Or.inl ⟨by kernel_rfl, ?_⟩) hHeld ?_
  rotate_left
  · intro w1 hSw; (try dsimp only at hSw); go_simp <;> with_reducible rfl
  try simp only [Act.put, jA, jB, jC]
  refine wpAnyH_take (i := 29) (oi := ⟨some 43, _, _, _, _, _⟩) (v := ?_) rfl (by kernel_rfl) (by kernel_rfl) (by kernel_rfl) (fun _ _ _ h => h) (Or.inl ⟨by kernel_rfl, ?_⟩) hHeld ?_
  rotate_left
  · intro w1 hSw; (try dsimp only at hSw); go_simp <;> with_reducible rfl
  try simp only [Act.put, jA, jB, jC]
  refine wpAnyH_take (i := 30) (oi := ⟨some 44, _, _, _, _, _⟩) (v := ?_) rfl (by kernel_rfl) (by kernel_rfl) (by kernel_rfl) (fun _ _ _ h => h) (Or.inl ⟨by kernel_rfl, ?_⟩) hHeld ?_
  rotate_left
  · intro w1 hSw; (try dsimp only at hSw); go_simp <;> with_reducible rfl
  try simp only [Act.put, jA, jB, jC]
  refine wpAnyH_take (i := 31) (oi := ⟨some 45, _, _, _, _, _⟩) (v := ?_) rfl (by kernel_rfl) (by kernel_rfl) (by kernel_rfl) (fun _ _ _ h => h) (Or.inl ⟨by kernel_rfl, ?_⟩) hHeld ?_
  rotate_left
  · intro w1 hSw; (try dsimp only at hSw); go_simp <;> with_reducible rfl
  try simp only [Act.put, jA, jB, jC]
  refine wpAnyH_ready (rs := [5]) (by kernel_rfl) (by simp) ?_
  refine AllReadyH.cons rfl (fun K hK => ?_) AllReadyH.nil
  go_simp
  go_at_call 61
  refine (when_any _ _ _).mono ?_
  rintro e w1 ⟨rfl, rfl⟩
  try go_simp
  refine hK.out _ _ ?_ (fun hHeld => ?_)
  · exact hHeld
  clear hK K
  try simp only [Act.put, jA, jB, jC]
  refine wpAnyH_ready (rs := [16]) (by kernel_rfl) (by simp) ?_
  refine AllReadyH.cons rfl (fun K hK => ?_) AllReadyH.nil
  go_simp
  go_at_call 61
  refine (when_any _ _ _).mono ?_
  rintro e w1 ⟨rfl, rfl⟩
  try go_simp
  refine hK.out _ _ ?_ (fun hHeld => ?_)
  · exact hHeld
  clear hK K
  try simp only [Act.put, jA, jB, jC]
  refine wpAnyH_ready (rs := [23]) (by kernel_rfl) (by simp) ?_
  refine AllReadyH.cons rfl (fun K hK => ?_) AllReadyH.nil
  go_simp
  go_at_call 61
  refine (when_any _ _ _).mono ?_
  rintro e w1 ⟨rfl, rfl⟩
  try go_simp
  refine hK.out _ _ ?_ (fun hHeld => ?_)
  · exact hHeld
  clear hK K
  try simp only [Act.put, jA, jB, jC]
  refine wpAnyH_ready (rs := [32]) (by kernel_rfl) (by simp) ?_
  refine AllReadyH.cons rfl (fun K hK => ?_) AllReadyH.nil
  go_simp
  go_at_call 61
  refine (when_any _ _ _).mono ?_
  rintro e w1 ⟨rfl, rfl⟩
  try go_simp
  refine hK.out _ _ ?_ (fun hHeld => ?_)
  · exact hHeld
  clear hK K
  try simp only [Act.put, jA, jB, jC]
  refine wpAnyH_ready (rs := [33]) (by kernel_rfl) (by simp) ?_
  refine AllReadyH.cons rfl (fun K hK => ?_) AllReadyH.nil
  go_simp
  refine hK.out _ _ ?_ (fun hHeld => ?_)
  · exact ⟨keepC hHeld.1 ((Below.refl _ _).alloc (Nat.le_refl _) _), keepC hHeld.2.1 ((Below.refl _ _).alloc (Nat.le_refl _) _), keepC hHeld.2.2.1 ((Below.refl _ _).alloc (Nat.le_refl _) _), keepC hHeld.2.2.2.1 ((Below.refl _ _).alloc (Nat.le_refl _) _), keepC hHeld.2.2.2.2.1 ((Below.refl _ _).alloc (Nat.le_refl _) _), keepC hHeld.2.2.2.2.2.1 ((Below.refl _ _).alloc (Nat.le_refl _) _), keepC hHeld.2.2.2.2.2.2.1 ((Below.refl _ _).alloc (Nat.le_refl _) _), keepC hHeld.2.2.2.2.2.2.2.1 ((Below.refl _ _).alloc (Nat.le_refl _) _), hHeld.2.2.2.2.2.2.2.2.trans ((((Below.refl _ _).alloc (Nat.le_refl _) _)).mono hHeld.2.2.2.2.2.2.2.2.size)⟩
  clear hK K
  try simp only [Act.put, jA, jB, jC]
  refine wpAnyH_ready (rs := [34]) (by kernel_rfl) (by simp) ?_
  refine AllReadyH.cons rfl (fun K hK => ?_) AllReadyH.nil
  go_simp
  go_at_call 13
  refine (first_any _ _ _ [whenI (sp != sp2) 2, whenI (st2 != ti) 11, whenI (decide ((4096 : Int) < (xs.length : Int) + (ys.length : Int))) 5, whenI (decide ((16 : Int) < (ms.length : Int) + (ns.length : Int))) 5] _ ?_ rfl (by simp)).mono ?_
  · exact Rd.new _ _ _ _ (by simp)
  rintro e w1 ⟨rfl, rfl⟩
  rw [← HEE.out]
  try go_simp
  refine hK.out _ _ ?_ (fun hHeld => ?_)
  · exact hHeld
  clear hK K
  try simp only [Act.put, jA, jB, jC]
  refine wpAnyH_take (i := 35) (oi := ⟨some 7, _, _, _, _, _⟩) (v := ?_) rfl (by kernel_rfl) (by kernel_rfl) (by kernel_rfl) (fun _ _ _ h => h) (Or.inl ⟨by kernel_rfl, ?_⟩) hHeld ?_
  rotate_left
  · intro w1 hSw; (try dsimp only at hSw); go_simp <;> with_reducible rfl
  try simp only [Act.put, jA, jB, jC]
  refine wpAnyH_done (by kernel_rfl) ?_ _
  have I0 := Lib.hid (G0.out.old hHeld.2.2.2.2.2.2.2.2); have I1 := Lib.hid (G1.out.old hHeld.2.2.2.2.2.2.2.2); have I2 := Lib.hid (G2.out.old hHeld.2.2.2.2.2.2.2.2)
  have IB := Lib.hid (GB.out.trans (hHeld.2.2.2.2.2.2.2.2.mono GB.out.size))
  clear hHeld G0 G1 G2 GB eT1 eT2 hxy1 hmn1 HEE
  go_wp2_with (refine wpList_store_row rfl 25 _ _ rfl (w.heap.size + 1 + 1) zero4.toArray rfl rfl 25 _ I2.out ?_ ?_ ?_ ?_; (kernel_rfl); (rfl); (simp [zero4, Value.oneCell']))
  refine bodyPost_ret (results_row_tmp rfl _ _ (w.heap.size + 1 + 1) 25 zero4.toArray (0, 0) _ rfl (I2.out.setRow zero4) Tryz.underlying25 rfl (by kernel_rfl)) rfl ⟨?_, Below.setRow IB.out (by omega) _⟩
  rfl

set_option maxRecDepth 100000 in
set_option maxHeartbeats 8000000 in
theorem joinedR_ok (st sp : Int) (A1 B1 A2 B2 : Option Addr) (c1 d1 c2 d2 : Nat) (xs ys : List Nat) (ms ns : List (Int × ByteArray)) (st2 sp2 : Int) (w : World) (hA1 : Rd w A1 (flts xs)) (hB1 : Rd w B1 (markC ms)) (hA2 : Rd w A2 (flts ys)) (hB2 : Rd w B2 (markC ns)) (hx : xs.length ≤ 1000000) (hy : ys.length ≤ 1000000) (hms : ms.length ≤ 1000000) (hns : ns.length ≤ 1000000) (hac : A1 = none → c1 = 0) (hbc : B1 = none → d1 = 0) (hE : firstI (pairE st sp xs.length ms.length st2 sp2 ys.length ns.length) = 0) :
    Calls Tryz.prog 20 #[.agg #[.int .i64 st, .int .i64 sp, .slice A1 xs.length c1, .slice B1 ms.length d1], .agg #[.int .i64 st2, .int .i64 sp2, .slice A2 ys.length c2, .slice B2 ns.length d2]] w fun e w' => ∃ v u, e = .returned (.tuple #[.agg #[.int .i64 st, .int .i64 sp, v, u], .int .i64 0]) ∧ w'.ownsRow w.heap.size 90 1 v (xs.length + ys.length) (flts (xs ++ ys)) ∧ w'.ownsRow w.heap.size 83 2 u (ms.length + ns.length) (markC (ms ++ ns.map (shiftM xs.length))) ∧ Below w.heap.size w w' := by
  have HA1 := Lib.hid hA1; have HB1 := Lib.hid hB1; have HA2 := Lib.hid hA2; have HB2 := Lib.hid hB2
  obtain ⟨ti, hti⟩ : ∃ ti, ti = tickI st sp xs.length := ⟨_, rfl⟩
  obtain ⟨EE, hEE⟩ : ∃ EE, EE = firstI (pairE st sp xs.length ms.length st2 sp2 ys.length ns.length) := ⟨_, rfl⟩
  have HTI := Lib.hid hti
  have HEE : Hid (EE = firstI [whenI (sp != sp2) 2, whenI (st2 != ti) 11, whenI (decide ((4096 : Int) < (xs.length : Int) + (ys.length : Int))) 5, whenI (decide ((16 : Int) < (ms.length : Int) + (ns.length : Int))) 5]) := by
    unfold Hid; rw [hEE, pairE, hti]
  have eT2 : wrap64 (st + wrap64 (sp * (xs.length : Int))) = ti := by rw [hti, tickI, Int.mul_comm]
  have eT1 : IntKind.i64.wrap (st + IntKind.i64.wrap (sp * (xs.length : Int))) = ti := by rw [IntWalk.i64_left, IntWalk.i64_left]; exact eT2
  have hxy1 : IntKind.i64.wrap ((xs.length : Int) + (ys.length : Int)) = (xs.length : Int) + (ys.length : Int) := IntWalk.i64_in _ (by omega)
  have hmn1 : IntKind.i64.wrap ((ms.length : Int) + (ns.length : Int)) = (ms.length : Int) + (ns.length : Int) := IntWalk.i64_in _ (by omega)
  have HE0 : EE = 0 := by rw [hEE]; exact hE
  clear hA1 hB1 hA2 hB2 hti hEE hE
  have R0 := Row.new w 25 [.int .i64 st, .int .i64 sp, .slice A1 xs.length c1, .slice B1 ms.length d1]
  have R1 := Row.new (w.alloc (.cells #[.int .i64 st, .int .i64 sp, .slice A1 xs.length c1, .slice B1 ms.length d1] 25)) 25 [.int .i64 st2, .int .i64 sp2, .slice A2 ys.length c2, .slice B2 ns.length d2]
  have R2 := Row.new ((w.alloc (.cells #[.int .i64 st, .int .i64 sp, .slice A1 xs.length c1, .slice B1 ms.length d1] 25)).alloc (.cells #[.int .i64 st2, .int .i64 sp2, .slice A2 ys.length c2, .slice B2 ns.length d2] 25)) 25 zero4
  rw [World.size_alloc] at R1
  rw [World.size_alloc, World.size_alloc] at R2
  have R0' := (R0.alloc (.cells #[.int .i64 st2, .int .i64 sp2, .slice A2 ys.length c2, .slice B2 ns.length d2] 25)).alloc (.cells zero4.toArray 25)
  have R1' := R1.alloc (.cells zero4.toArray 25)
  have RB := (((Below.refl w.heap.size w).alloc (Nat.le_refl _) (.cells #[.int .i64 st, .int .i64 sp, .slice A1 xs.length c1, .slice B1 ms.length d1] 25)).alloc (by simp) (.cells #[.int .i64 st2, .int .i64 sp2, .slice A2 ys.length c2, .slice B2 ns.length d2] 25)).alloc (by simp; omega) (.cells zero4.toArray 25)
  have HR0 := Lib.hid R0'; have HR1 := Lib.hid R1'; have HR2 := Lib.hid R2; have HRB := Lib.hid RB
  clear R0 R1 R2 R0' R1' RB
  go_enter Tryz.func20, Tryz.ntmps20
  go_upto_region 1 with fail
  refine genD (w0 := w) w.heap.size (w.heap.size + 1) (w.heap.size + 1 + 1) _ _ _ _ _ _ HR0.out HR1.out HR2.out HRB.out ?_
  clear HR0 HR1 HR2 HRB
  intro W R0 R1 R2 RB
  have G0 := Lib.hid R0; have G1 := Lib.hid R1; have G2 := Lib.hid R2; have GB := Lib.hid RB
  have q2 := R0.cell 2
  simp only [List.getElem?_cons_succ, List.getElem?_cons_zero] at q2
  clear R0 R1 R2 RB
  go_upto_region 2 with fail
  clear q2
  refine wp_region_held_drew (S := fun w' => w'.cell? ⟨w.heap.size, 0, none⟩ = some (.int .i64 st) ∧ w'.cell? ⟨w.heap.size, 1, none⟩ = some (.int .i64 sp) ∧ w'.cell? ⟨w.heap.size, 2, none⟩ = some (.slice A1 xs.length c1) ∧ w'.cell? ⟨w.heap.size, 3, none⟩ = some (.slice B1 ms.length d1) ∧ w'.cell? ⟨w.heap.size + 1, 0, none⟩ = some (.int .i64 st2) ∧ w'.cell? ⟨w.heap.size + 1, 1, none⟩ = some (.int .i64 sp2) ∧ w'.cell? ⟨w.heap.size + 1, 2, none⟩ = some (.slice A2 ys.length c2) ∧ w'.cell? ⟨w.heap.size + 1, 3, none⟩ = some (.slice B2 ns.length d2) ∧ Below W.heap.size W w') (by kernel_rfl) ?_ (fun hHeld => ?_)
  · exact ⟨G0.out.cell 0, G0.out.cell 1, G0.out.cell 2, G0.out.cell 3, G1.out.cell 0, G1.out.cell 1, G1.out.cell 2, G1.out.cell 3, (Below.refl _ _).drew⟩
  refine wpAnyH_take (i := 0) (oi := ⟨some 14, _, _, _, _, _⟩) (v := ?_) rfl (by kernel_rfl) (by kernel_rfl) (by kernel_rfl) (fun _ _ _ h => h) (Or.inl ⟨by kernel_rfl, ?_⟩) hHeld ?_
  rotate_left
  · intro w1 hSw; (try dsimp only at hSw); go_simp <;> with_reducible rfl
  try simp only [Act.put, jA, jB, jC]
  refine wpAnyH_take (i := 1) (oi := ⟨some 15, _, _, _, _, _⟩) (v := ?_) rfl (by kernel_rfl) (by kernel_rfl) (by kernel_rfl) (fun _ _ _ h => h) (Or.inl ⟨by kernel_rfl, ?_⟩) hHeld ?_
  rotate_left
  · intro w1 hSw; (try dsimp only at hSw); go_simp <;> with_reducible rfl
  try simp only [Act.put, jA, jB, jC]
  refine wpAnyH_take (i := 2) (oi := ⟨some 16, _, _, _, _, _⟩) (v := ?_) rfl (by kernel_rfl) (by kernel_rfl) (by kernel_rfl) (fun _ _ _ h => h) (Or.inl ⟨by kernel_rfl, ?_⟩) hHeld ?_
  rotate_left
  · intro w1 hSw; (try dsimp only at hSw); go_simp <;> with_reducible rfl
  try simp only [Act.put, jA, jB, jC]
  refine wpAnyH_take (i := 3) (oi := ⟨some 17, _, _, _, _, _⟩) (v := ?_) rfl (by kernel_rfl) (by kernel_rfl) (by kernel_rfl) (fun _ _ _ h => h) (Or.inl ⟨by kernel_rfl, ?_⟩) hHeld ?_
  rotate_left
  · intro w1 hSw; (try dsimp only at hSw); go_simp <;> with_reducible rfl
  try simp only [Act.put, jA, jB, jC]
  refine wpAnyH_take (i := 4) (oi := ⟨some 18, _, _, _, _, _⟩) (v := ?_) rfl (by kernel_rfl) (by kernel_rfl) (by kernel_rfl) (fun _ _ _ h => h) (Or.inl ⟨by kernel_rfl, ?_⟩) hHeld ?_
  rotate_left
  · intro w1 hSw; (try dsimp only at hSw); go_simp <;> with_reducible rfl
  try simp only [Act.put, jA, jB, jC]
  refine wpAnyH_take (i := 6) (oi := ⟨some 20, _, _, _, _, _⟩) (v := ?_) rfl (by kernel_rfl) (by kernel_rfl) (by kernel_rfl) (fun _ _ _ h => h) (Or.inl ⟨by kernel_rfl, ?_⟩) hHeld ?_
  rotate_left
  · intro w1 hSw; (try dsimp only at hSw); go_simp <;> with_reducible rfl
  try simp only [Act.put, jA, jB, jC]
  refine wpAnyH_take (i := 7) (oi := ⟨some 21, _, _, _, _, _⟩) (v := ?_) rfl (by kernel_rfl) (by kernel_rfl) (by kernel_rfl) (fun _ _ _ h => h) (Or.inl ⟨by kernel_rfl, ?_⟩) hHeld ?_
  rotate_left
  · intro w1 hSw; (try dsimp only at hSw); go_simp <;> with_reducible rfl
  try simp only [Act.put, jA, jB, jC]
  refine wpAnyH_take (i := 8) (oi := ⟨some 22, _, _, _, _, _⟩) (v := ?_) rfl (by kernel_rfl) (by kernel_rfl) (by kernel_rfl) (fun _ _ _ h => h) (Or.inl ⟨by kernel_rfl, ?_⟩) hHeld ?_
  rotate_left
  · intro w1 hSw; (try dsimp only at hSw); go_simp <;> with_reducible rfl
  try simp only [Act.put, jA, jB, jC]
  refine wpAnyH_take (i := 9) (oi := ⟨some 23, _, _, _, _, _⟩) (v := ?_) rfl (by kernel_rfl) (by kernel_rfl) (by kernel_rfl) (fun _ _ _ h => h) (Or.inl ⟨by kernel_rfl, ?_⟩) hHeld ?_
  rotate_left
  · intro w1 hSw; (try dsimp only at hSw); go_simp <;> with_reducible rfl
  try simp only [Act.put, jA, jB, jC]
  refine wpAnyH_take (i := 10) (oi := ⟨some 24, _, _, _, _, _⟩) (v := ?_) rfl (by kernel_rfl) (by kernel_rfl) (by kernel_rfl) (fun _ _ _ h => h) (Or.inl ⟨by kernel_rfl, ?_⟩) hHeld ?_
  rotate_left
  · intro w1 hSw; (try dsimp only at hSw); go_simp <;> with_reducible rfl
  try simp only [Act.put, jA, jB, jC]
  refine wpAnyH_take (i := 11) (oi := ⟨some 25, _, _, _, _, _⟩) (v := ?_) rfl (by kernel_rfl) (by kernel_rfl) (by kernel_rfl) (fun _ _ _ h => h) (Or.inl ⟨by kernel_rfl, ?_⟩) hHeld ?_
  rotate_left
  · intro w1 hSw; (try dsimp only at hSw); go_simp <;> with_reducible rfl
  try simp only [Act.put, jA, jB, jC]
  refine wpAnyH_take (i := 12) (oi := ⟨some 26, _, _, _, _, _⟩) (v := ?_) rfl (by kernel_rfl) (by kernel_rfl) (by kernel_rfl) (fun _ _ _ h => h) (Or.inl ⟨by kernel_rfl, ?_⟩) hHeld ?_
  rotate_left
  · intro w1 hSw; (try dsimp only at hSw); go_simp <;> with_reducible rfl
  try simp only [Act.put, jA, jB, jC]
  refine wpAnyH_take (i := 13) (oi := ⟨some 27, _, _, _, _, _⟩) (v := ?_) rfl (by kernel_rfl) (by kernel_rfl) (by kernel_rfl) (fun _ _ _ h => h) (Or.inl ⟨by kernel_rfl, ?_⟩) hHeld ?_
  rotate_left
  · intro w1 hSw; (try dsimp only at hSw); go_simp <;> with_reducible rfl
  try simp only [Act.put, jA, jB, jC]
  refine wpAnyH_take (i := 14) (oi := ⟨some 28, _, _, _, _, _⟩) (v := ?_) rfl (by kernel_rfl) (by kernel_rfl) (by kernel_rfl) (fun _ _ _ h => h) (Or.inl ⟨by kernel_rfl, ?_⟩) hHeld ?_
  rotate_left
  · intro w1 hSw; (try dsimp only at hSw); go_simp <;> with_reducible rfl
  try simp only [Act.put, jA, jB, jC]
  refine wpAnyH_take (i := 15) (oi := ⟨some 29, _, _, _, _, _⟩) (v := ?_) rfl (by kernel_rfl) (by kernel_rfl) (by kernel_rfl) (fun _ _ _ h => h) (Or.inl ⟨by kernel_rfl, ?_⟩) hHeld ?_
  rotate_left
  · intro w1 hSw; (try dsimp only at hSw); go_simp <;> with_reducible rfl
  try simp only [Act.put, jA, jB, jC]
  refine wpAnyH_take (i := 17) (oi := ⟨some 31, _, _, _, _, _⟩) (v := ?_) rfl (by kernel_rfl) (by kernel_rfl) (by kernel_rfl) (fun _ _ _ h => h) (Or.inl ⟨by kernel_rfl, ?_⟩) hHeld ?_
  rotate_left
  · intro w1 hSw; (try dsimp only at hSw); go_simp <;> with_reducible rfl
  try simp only [Act.put, jA, jB, jC]
  refine wpAnyH_take (i := 18) (oi := ⟨some 32, _, _, _, _, _⟩) (v := ?_) rfl (by kernel_rfl) (by kernel_rfl) (by kernel_rfl) (fun _ _ _ h => h) (Or.inl ⟨by kernel_rfl, ?_⟩) hHeld ?_
  rotate_left
  · intro w1 hSw; (try dsimp only at hSw); go_simp <;> with_reducible rfl
  try simp only [Act.put, jA, jB, jC]
  refine wpAnyH_take (i := 19) (oi := ⟨some 33, _, _, _, _, _⟩) (v := ?_) rfl (by kernel_rfl) (by kernel_rfl) (by kernel_rfl) (fun _ _ _ h => h) (Or.inl ⟨by kernel_rfl, ?_⟩) hHeld ?_
  rotate_left
  · intro w1 hSw; (try dsimp only at hSw); go_simp <;> with_reducible rfl
  try simp only [Act.put, jA, jB, jC]
  refine wpAnyH_take (i := 20) (oi := ⟨some 34, _, _, _, _, _⟩) (v := ?_) rfl (by kernel_rfl) (by kernel_rfl) (by kernel_rfl) (fun _ _ _ h => h) (Or.inl ⟨by kernel_rfl, ?_⟩) hHeld ?_
  rotate_left
  · intro w1 hSw; (try dsimp only at hSw); go_simp <;> with_reducible rfl
  try simp only [Act.put, jA, jB, jC]
  refine wpAnyH_take (i := 21) (oi := ⟨some 35, _, _, _, _, _⟩) (v := ?_) rfl (by kernel_rfl) (by kernel_rfl) (by kernel_rfl) (fun _ _ _ h => h) (Or.inl ⟨by kernel_rfl, ?_⟩) hHeld ?_
  rotate_left
  · intro w1 hSw; (try dsimp only at hSw); go_simp <;> with_reducible rfl
  try simp only [Act.put, jA, jB, jC]
  refine wpAnyH_take (i := 22) (oi := ⟨some 36, _, _, _, _, _⟩) (v := ?_) rfl (by kernel_rfl) (by kernel_rfl) (by kernel_rfl) (fun _ _ _ h => h) (Or.inl ⟨by kernel_rfl, ?_⟩) hHeld ?_
  rotate_left
  · intro w1 hSw; (try dsimp only at hSw); go_simp <;> with_reducible rfl
  try simp only [Act.put, jA, jB, jC]
  refine wpAnyH_take (i := 24) (oi := ⟨some 38, _, _, _, _, _⟩) (v := ?_) rfl (by kernel_rfl) (by kernel_rfl) (by kernel_rfl) (fun _ _ _ h => h) (Or.inl ⟨by kernel_rfl, ?_⟩) hHeld ?_
  rotate_left
  · intro w1 hSw; (try dsimp only at hSw); go_simp <;> with_reducible rfl
  try simp only [Act.put, jA, jB, jC]
  refine wpAnyH_take (i := 25) (oi := ⟨some 39, _, _, _, _, _⟩) (v := ?_) rfl (by kernel_rfl) (by kernel_rfl) (by kernel_rfl) (fun _ _ _ h => h) (Or.inl ⟨by kernel_rfl, ?_⟩) hHeld ?_
  rotate_left
  · intro w1 hSw; (try dsimp only at hSw); go_simp <;> with_reducible rfl
  try simp only [Act.put, jA, jB, jC]
  refine wpAnyH_take (i := 26) (oi := ⟨some 40, _, _, _, _, _⟩) (v := ?_) rfl (by kernel_rfl) (by kernel_rfl) (by kernel_rfl) (fun _ _ _ h => h) (Or.inl ⟨by kernel_rfl, ?_⟩) hHeld ?_
  rotate_left
  · intro w1 hSw; (try dsimp only at hSw); go_simp <;> with_reducible rfl
  try simp only [Act.put, jA, jB, jC]
  refine wpAnyH_take (i := 27) (oi := ⟨some 41, _, _, _, _, _⟩) (v := ?_) rfl (by kernel_rfl) (by kernel_rfl) (by kernel_rfl) (fun _ _ _ h => h) (Or.inl ⟨by kernel_rfl, ?_⟩) hHeld ?_
  rotate_left
  · intro w1 hSw; (try dsimp only at hSw); go_simp <;> with_reducible rfl
  try simp only [Act.put, jA, jB, jC]
  refine wpAnyH_take (i := 28) (oi := ⟨some 42, _, _, _, _, _⟩) (v := ?_) rfl (by kernel_rfl) (by kernel_rfl) (by kernel_rfl) (fun _ _ _ h => h) (Or.inl ⟨by kernel_rfl, ?_⟩) hHeld ?_
  rotate_left
  · intro w1 hSw; (try dsimp only at hSw); go_simp <;> with_reducible rfl
  try simp only [Act.put, jA, jB, jC]
  refine wpAnyH_take (i := 29) (oi := ⟨some 43, _, _, _, _, _⟩) (v := ?_) rfl (by kernel_rfl) (by kernel_rfl) (by kernel_rfl) (fun _ _ _ h => h) (Or.inl ⟨by kernel_rfl, ?_⟩) hHeld ?_
  rotate_left
  · intro w1 hSw; (try dsimp only at hSw); go_simp <;> with_reducible rfl
  try simp only [Act.put, jA, jB, jC]
  refine wpAnyH_take (i := 30) (oi := ⟨some 44, _, _, _, _, _⟩) (v := ?_) rfl (by kernel_rfl) (by kernel_rfl) (by kernel_rfl) (fun _ _ _ h => h) (Or.inl ⟨by kernel_rfl, ?_⟩) hHeld ?_
  rotate_left
  · intro w1 hSw; (try dsimp only at hSw); go_simp <;> with_reducible rfl
  try simp only [Act.put, jA, jB, jC]
  refine wpAnyH_take (i := 31) (oi := ⟨some 45, _, _, _, _, _⟩) (v := ?_) rfl (by kernel_rfl) (by kernel_rfl) (by kernel_rfl) (fun _ _ _ h => h) (Or.inl ⟨by kernel_rfl, ?_⟩) hHeld ?_
  rotate_left
  · intro w1 hSw; (try dsimp only at hSw); go_simp <;> with_reducible rfl
  try simp only [Act.put, jA, jB, jC]
  refine wpAnyH_ready (rs := [5]) (by kernel_rfl) (by simp) ?_
  refine AllReadyH.cons rfl (fun K hK => ?_) AllReadyH.nil
  go_simp
  go_at_call 61
  refine (when_any _ _ _).mono ?_
  rintro e w1 ⟨rfl, rfl⟩
  try go_simp
  refine hK.out _ _ ?_ (fun hHeld => ?_)
  · exact hHeld
  clear hK K
  try simp only [Act.put, jA, jB, jC]
  refine wpAnyH_ready (rs := [16]) (by kernel_rfl) (by simp) ?_
  refine AllReadyH.cons rfl (fun K hK => ?_) AllReadyH.nil
  go_simp
  go_at_call 61
  refine (when_any _ _ _).mono ?_
  rintro e w1 ⟨rfl, rfl⟩
  try go_simp
  refine hK.out _ _ ?_ (fun hHeld => ?_)
  · exact hHeld
  clear hK K
  try simp only [Act.put, jA, jB, jC]
  refine wpAnyH_ready (rs := [23]) (by kernel_rfl) (by simp) ?_
  refine AllReadyH.cons rfl (fun K hK => ?_) AllReadyH.nil
  go_simp
  go_at_call 61
  refine (when_any _ _ _).mono ?_
  rintro e w1 ⟨rfl, rfl⟩
  try go_simp
  refine hK.out _ _ ?_ (fun hHeld => ?_)
  · exact hHeld
  clear hK K
  try simp only [Act.put, jA, jB, jC]
  refine wpAnyH_ready (rs := [32]) (by kernel_rfl) (by simp) ?_
  refine AllReadyH.cons rfl (fun K hK => ?_) AllReadyH.nil
  go_simp
  go_at_call 61
  refine (when_any _ _ _).mono ?_
  rintro e w1 ⟨rfl, rfl⟩
  try go_simp
  refine hK.out _ _ ?_ (fun hHeld => ?_)
  · exact hHeld
  clear hK K
  try simp only [Act.put, jA, jB, jC]
  refine wpAnyH_ready (rs := [33]) (by kernel_rfl) (by simp) ?_
  refine AllReadyH.cons rfl (fun K hK => ?_) AllReadyH.nil
  go_simp
  refine hK.out _ _ ?_ (fun hHeld => ?_)
  · exact ⟨keepC hHeld.1 ((Below.refl _ _).alloc (Nat.le_refl _) _), keepC hHeld.2.1 ((Below.refl _ _).alloc (Nat.le_refl _) _), keepC hHeld.2.2.1 ((Below.refl _ _).alloc (Nat.le_refl _) _), keepC hHeld.2.2.2.1 ((Below.refl _ _).alloc (Nat.le_refl _) _), keepC hHeld.2.2.2.2.1 ((Below.refl _ _).alloc (Nat.le_refl _) _), keepC hHeld.2.2.2.2.2.1 ((Below.refl _ _).alloc (Nat.le_refl _) _), keepC hHeld.2.2.2.2.2.2.1 ((Below.refl _ _).alloc (Nat.le_refl _) _), keepC hHeld.2.2.2.2.2.2.2.1 ((Below.refl _ _).alloc (Nat.le_refl _) _), hHeld.2.2.2.2.2.2.2.2.trans ((((Below.refl _ _).alloc (Nat.le_refl _) _)).mono hHeld.2.2.2.2.2.2.2.2.size)⟩
  clear hK K
  try simp only [Act.put, jA, jB, jC]
  refine wpAnyH_ready (rs := [34]) (by kernel_rfl) (by simp) ?_
  refine AllReadyH.cons rfl (fun K hK => ?_) AllReadyH.nil
  go_simp
  go_at_call 13
  refine (first_any _ _ _ [whenI (sp != sp2) 2, whenI (st2 != ti) 11, whenI (decide ((4096 : Int) < (xs.length : Int) + (ys.length : Int))) 5, whenI (decide ((16 : Int) < (ms.length : Int) + (ns.length : Int))) 5] _ ?_ rfl (by simp)).mono ?_
  · exact Rd.new _ _ _ _ (by simp)
  rintro e w1 ⟨rfl, rfl⟩
  rw [← HEE.out]
  try go_simp
  refine hK.out _ _ ?_ (fun hHeld => ?_)
  · exact hHeld
  clear hK K
  try simp only [Act.put, jA, jB, jC]
  refine wpAnyH_take (i := 35) (oi := ⟨some 7, _, _, _, _, _⟩) (v := ?_) rfl (by kernel_rfl) (by kernel_rfl) (by kernel_rfl) (fun _ _ _ h => h) (Or.inl ⟨by kernel_rfl, ?_⟩) hHeld ?_
  rotate_left
  · intro w1 hSw; (try dsimp only at hSw); go_simp <;> with_reducible rfl
  try simp only [Act.put, jA, jB, jC]
  refine wpAnyH_done (by kernel_rfl) ?_ _
  have I0 := Lib.hid (G0.out.old hHeld.2.2.2.2.2.2.2.2); have I1 := Lib.hid (G1.out.old hHeld.2.2.2.2.2.2.2.2); have I2 := Lib.hid (G2.out.old hHeld.2.2.2.2.2.2.2.2)
  have IB := Lib.hid (GB.out.trans (hHeld.2.2.2.2.2.2.2.2.mono GB.out.size))
  clear hHeld G0 G1 G2 GB eT1 eT2 hxy1 hmn1 HEE
  subst HE0
  have s2 := Lib.hid I2.out.lt
  go_upto_region 5 with fail
  refine genR (fun V => Row V w.heap.size 25 [.int .i64 st, .int .i64 sp, .slice A1 xs.length c1, .slice B1 ms.length d1] ∧ Row V (w.heap.size + 1) 25 [.int .i64 st2, .int .i64 sp2, .slice A2 ys.length c2, .slice B2 ns.length d2] ∧ Row V (w.heap.size + 1 + 1) 25 zero4 ∧ Below w.heap.size w V) ⟨I0.out, I1.out, I2.out, IB.out⟩ ?_
  clear I0 I1 I2 IB s2
  rintro W5 ⟨r0, r1, r2, rb⟩
  have I0 := Lib.hid r0; have I1 := Lib.hid r1; have I2 := Lib.hid r2; have IB := Lib.hid rb
  have S5 := Lib.hid r2.lt
  clear r0 r1 r2 rb
  obtain ⟨Bo, hBo⟩ : ∃ Bo, Bo = W5.heap.size := ⟨_, rfl⟩
  have HBoS : Hid (w.heap.size + 2 < Bo) := by unfold Hid; rw [hBo]; exact S5.out
  have HBE := Lib.hid hBo
  clear hBo
  go_upto_region 6 with (first | (refine wpList_load_row rfl 25 _ rfl w.heap.size rfl 25 #[.int .i64 st, .int .i64 sp, .slice A1 xs.length c1, .slice B1 ms.length d1] (0, 0) _ I0.out Tryz.underlying25 rfl ?_ ?_; (kernel_rfl)) | (go_at_call 66; refine (ownR_any st sp A1 B1 c1 d1 xs ms _ (HA1.out.below IB.out) (HB1.out.below IB.out) hx hms hac hbc).mono ?_; rintro e w6 ⟨GA, gc, GB, gd, rfl, hov, hou, hod, hb6⟩; have KV := Lib.hid hov; have KU := Lib.hid hou; have KD := Lib.hid hod; have KB6 := Lib.hid hb6; clear hov hou hod hb6) | (refine wpList_store_row rfl 25 _ _ rfl w6.heap.size #[.int .i64 st, .int .i64 sp, .slice GA xs.length gc, .slice GB ms.length gd] rfl rfl 25 _ (Row.new w6 25 zero4) ?_ ?_ ?_ ?_; (kernel_rfl); (rfl); (simp [Value.oneCell'])))
  have NV0 : (Value.slice GA xs.length gc).ownBlock ≠ some w6.heap.size := fun e => by have := (KV.out.lt _ e).2; omega
  have NU0 : (Value.slice GB ms.length gd).ownBlock ≠ some w6.heap.size := fun e => by have := (KU.out.lt _ e).2; omega
  have bs := KB6.out.size
  refine genR (fun V => V.ownsRow Bo 90 1 (.slice GA xs.length gc) xs.length (flts xs) ∧ V.ownsRow Bo 83 2 (.slice GB ms.length gd) ms.length (markC ms) ∧ Row V w6.heap.size 25 [.int .i64 st, .int .i64 sp, .slice GA xs.length gc, .slice GB ms.length gd] ∧ Below Bo W5 V ∧ Bo ≤ V.heap.size)
    ⟨by rw [HBE.out]; exact owns_other w6.heap.size (KV.out.alloc (.cells zero4.toArray 25)) (fun q _ hne => setRow_other _ _ _ _ hne) NV0, by rw [HBE.out]; exact owns_other w6.heap.size (KU.out.alloc (.cells zero4.toArray 25)) (fun q _ hne => setRow_other _ _ _ _ hne) NU0, (Row.new w6 25 zero4).setRow _, by rw [HBE.out]; exact Below.setRow (KB6.out.alloc bs _) bs _, by rw [HBE.out]; simp; omega⟩ ?_
  have HG8 : Hid (Bo ≤ w6.heap.size) := by unfold Hid; rw [HBE.out]; exact bs
  have NV0' := Lib.hid NV0; have NU0' := Lib.hid NU0
  clear NV0 NU0 bs KV KU KB6 HBE
  generalize w6.heap.size = g8 at *
  clear w6
  rintro W6 ⟨o1, o2, o3, o4, o5⟩
  have J1 := Lib.hid o1; have J2 := Lib.hid o2; have J3 := Lib.hid o3; have J4 := Lib.hid o4; have J5 := Lib.hid o5
  clear o1 o2 o3 o4 o5
  obtain ⟨u, hu⟩ : ∃ u, u = Value.slice GB ms.length gd := ⟨_, rfl⟩
  rw [← hu] at J2 J3 NU0' KD
  have NU := NU0'
  clear hu NU0'
  go_upto_region 7 with fail
  go_loopw [9] (fun i wr => ∃ (j : Nat) (v : Value), j ≤ ys.length ∧ i = .int .i64 j ∧ Hid (wr.ownsRow Bo 90 1 v (xs.length + j) (flts (xs ++ ys.take j))) ∧ Hid (wr.ownsRow Bo 83 2 u ms.length (markC ms)) ∧ Hid (u.ownBlock = none ∨ u.ownBlock ≠ v.ownBlock) ∧ Hid (v.ownBlock ≠ some g8) ∧ Hid (Row wr g8 25 [.int .i64 st, .int .i64 sp, v, u]) ∧ Hid (Below Bo W5 wr) ∧ Hid (Bo ≤ wr.heap.size)) (fun i _ => ys.length - (intOf i).toNat)
  case atStart => exact ⟨0, .slice GA xs.length gc, Nat.zero_le _, rfl, by show World.ownsRow _ _ _ _ _ _ _; simpa using J1.out, J2, dis_symm KD.out, NV0', J3, J4, J5⟩
  case round =>
    clear J1 J2 J3 J4 J5 KD NV0'
    obtain ⟨j, v, hj, rfl, HO, HU, HD, NV, HR8, HBK, HBo⟩ := hrel
    have K1 : Hid (Row wr (w.heap.size + 1) 25 [.int .i64 st2, .int .i64 sp2, .slice A2 ys.length c2, .slice B2 ns.length d2]) := I1.out.below HBK.out (by have := HBoS.out; omega)
    have q2 := K1.out.cell 2; have q3 := K1.out.cell 3
    simp only [List.getElem?_cons_succ, List.getElem?_cons_zero] at q2 q3
    by_cases hlt : j < ys.length
    · have i1 : (j : Int) < (ys.length : Int) := by omega
      obtain ⟨b, off, hAb, hbl⟩ := Rd.flt HA2.out hlt
      subst hAb
      obtain ⟨x, hx0⟩ : ∃ x, x = ys[j] := ⟨_, rfl⟩
      rw [← hx0] at hbl
      have HBL : Hid (b < w.heap.size) := World.block_lt_of_cell? _ _ hbl
      have QX : Hid (wr.cell? ⟨b, off + j, none⟩ = some (.float .f32 x)) := ((IB.out.trans (HBK.out.mono (by have := HBoS.out; omega))).cell HBL.out).trans hbl
      have HT : Hid (xs ++ ys.take (j + 1) = xs ++ (ys.take j ++ [x])) := by
        unfold Hid; rw [List.take_succ_eq_append_getElem hlt, hx0]
      have Q2 := Lib.hid q2
      have NE1 : Hid (some (w.heap.size + 1) ≠ v.ownBlock) := own_nb HO.out (by have := HBoS.out; omega)
      have NEB : Hid (some b ≠ v.ownBlock) := own_nb HO.out (by have := HBoS.out; have := HBL.out; omega)
      have NE8 : Hid (some g8 ≠ v.ownBlock) := fun e => NV.out e.symm
      clear hbl hx0
      go_upto_region 9 with fail
      clear q2 q3
      refine wp_region_held_drew (S := fun w' => w'.cell? ⟨w.heap.size + 1, 2, none⟩ = some (.slice (some ⟨b, off, none⟩) ys.length c2) ∧ w'.cell? ⟨b, off + j, none⟩ = some (.float .f32 x)) (by kernel_rfl) ?_ (fun hHeld => ?_)
      · exact ⟨Q2.out, QX.out⟩
      refine wpAnyH_take (i := 0) (oi := ⟨some 62, _, _, _, _, _⟩) (v := ?_) rfl (by kernel_rfl) (by kernel_rfl) (by kernel_rfl) (fun _ _ _ h => h) (Or.inl ⟨by kernel_rfl, ?_⟩) hHeld ?_
      rotate_left
      · intro w1 hSw; (try dsimp only at hSw); go_simp <;> with_reducible rfl
      try simp only [Act.put, jA, jB, jC]
      refine wpAnyH_take (i := 2) (oi := ⟨some 64, _, _, _, _, _⟩) (v := ?_) rfl (by kernel_rfl) (by kernel_rfl) (by kernel_rfl) (fun _ _ _ h => h) (Or.inl ⟨by kernel_rfl, ?_⟩) hHeld ?_
      rotate_left
      · intro w1 hSw; (try dsimp only at hSw); go_simp <;> with_reducible rfl
      try simp only [Act.put, jA, jB, jC]
      refine wpAnyH_take (i := 3) (oi := ⟨some 65, _, _, _, _, _⟩) (v := ?_) rfl (by kernel_rfl) (by kernel_rfl) (by kernel_rfl) (fun _ _ _ h => h) (Or.inl ⟨by kernel_rfl, ?_⟩) hHeld ?_
      rotate_left
      · intro w1 hSw; (try dsimp only at hSw); go_simp <;> with_reducible rfl
      try simp only [Act.put, jA, jB, jC]
      refine wpAnyH_take (i := 4) (oi := ⟨some 66, _, _, _, _, _⟩) (v := ?_) rfl (by kernel_rfl) (by kernel_rfl) (by kernel_rfl) (fun _ _ _ h => h) (Or.inl ⟨by kernel_rfl, ?_⟩) hHeld ?_
      rotate_left
      · intro w1 hSw; (try dsimp only at hSw); go_simp <;> with_reducible rfl
      try simp only [Act.put, jA, jB, jC]
      refine wpAnyH_take (i := 5) (oi := ⟨some 67, _, _, _, _, _⟩) (v := ?_) rfl (by kernel_rfl) (by kernel_rfl) (by kernel_rfl) (fun _ _ _ h => h) (Or.inl ⟨by kernel_rfl, ?_⟩) hHeld ?_
      rotate_left
      · intro w1 hSw; (try dsimp only at hSw); go_simp <;> with_reducible rfl
      try simp only [Act.put, jA, jB, jC]
      refine wpAnyH_take (i := 6) (oi := ⟨some 68, _, _, _, _, _⟩) (v := ?_) rfl (by kernel_rfl) (by kernel_rfl) (by kernel_rfl) (fun _ _ _ h => h) (Or.inl ⟨by kernel_rfl, ?_⟩) hHeld ?_
      rotate_left
      · intro w1 hSw; (try dsimp only at hSw); go_simp <;> with_reducible rfl
      try simp only [Act.put, jA, jB, jC]
      refine wpAnyH_ready (rs := [1, 7]) (by kernel_rfl) (by simp) ?_
      refine AllReadyH.cons rfl (fun K hK => ?_) (AllReadyH.cons rfl (fun K hK => ?_) (AllReadyH.nil))
      ·
        have z2 : (wr.drew).cell? ⟨g8, 2, none⟩ = some v := HR8.out.cell 2
        go_simp
        refine hK.out _ _ ?_ (fun hHeld => ?_)
        · exact hHeld
        clear hK K
        try simp only [Act.put, jA, jB, jC]
        refine wpAnyH_ready (rs := [7]) (by kernel_rfl) (by simp) ?_
        refine AllReadyH.cons rfl (fun K hK => ?_) (AllReadyH.nil)
        go_simp
        refine hK.out _ _ ?_ (fun hHeld => ?_)
        · exact ⟨keepC hHeld.1 ((Below.refl _ _).alloc (Nat.le_refl _) _), keepC hHeld.2 ((Below.refl _ _).alloc (Nat.le_refl _) _)⟩
        clear hK K
        try simp only [Act.put, jA, jB, jC]
        refine wpAnyH_ready (rs := [8]) (by kernel_rfl) (by simp) ?_
        refine AllReadyH.cons rfl (fun K hK => ?_) (AllReadyH.nil)
        refine step_app2 rfl (.tmp 63) (.tmp 69) 22 rfl Bo 90 (.float .f32 0) 1 4 Tryz.underlying22 info37 rfl (by decide) v (xs.length + j) (flts (xs ++ ys.take j)) (by simp [Act.eval, Act.put]) (owns_below HO.out ((Below.refl wr.heap.size wr).drew.alloc (Nat.le_refl _) (.cells #[Value.float .f32 x] 90))) wr.heap.size 1 1 [.float .f32 x] (by simp [Act.eval, Act.put]) 90 (Row.new wr.drew 90 [.float .f32 x]) rfl (by simp [Value.oneCell']) (by unfold maxLen; omega) (by omega) (by have := HBo.out; simp; omega) ?_
        intro v5 w5 ho5 hg5 hat5
        obtain ⟨A5, c5, rfl, -⟩ := owned_slice ho5
        refine hK.out _ _ ?_ (fun hHeld => ?_)
        · exact ⟨cell_grown hHeld.1 hg5 NE1.out, cell_grown hHeld.2 hg5 NEB.out⟩
        clear hK K
        try simp only [Act.put, jA, jB, jC]
        refine wpAnyH_take (i := 9) (oi := ⟨some 71, _, _, _, _, _⟩) (v := ?_) rfl (by kernel_rfl) (by kernel_rfl) (by kernel_rfl) (fun _ _ _ h => h) (Or.inl ⟨by kernel_rfl, ?_⟩) hHeld ?_
        rotate_left
        · intro w1 hSw; (try dsimp only at hSw); go_simp <;> with_reducible rfl
        try simp only [Act.put, jA, jB, jC]
        refine wpAnyH_ready (rs := [10]) (by kernel_rfl) (by simp) ?_
        refine AllReadyH.cons rfl (fun K hK => ?_) (AllReadyH.nil)
        have z5 : Row w5 g8 25 [.int .i64 st, .int .i64 sp, v, u] := Row.grown (w := wr.drew.alloc (.cells #[Value.float .f32 x] 90)) (HR8.out.old ((Below.refl wr.heap.size wr).drew.alloc (Nat.le_refl _) (.cells #[Value.float .f32 x] 90))) hg5 NE8.out
        have m3 := z5.cell 2
        have mf := z5.free 2
        simp only [List.getElem?_cons_succ, List.getElem?_cons_zero] at m3
        go_simp
        refine hK.out _ _ ?_ (fun hHeld => ?_)
        · exact ⟨(cell_setfar _ (by show _ ≠ g8; have := HG8.out; have := HBL.out; have := HBoS.out; omega)).trans hHeld.1, (cell_setfar _ (by show _ ≠ g8; have := HG8.out; have := HBL.out; have := HBoS.out; omega)).trans hHeld.2⟩
        clear hK K
        try simp only [Act.put, jA, jB, jC]
        refine wpAnyH_done (by kernel_rfl) ?_ _
        have hst : Step wr.drew w5 v (.slice A5 (xs.length + j + 1) c5) := Step.of_alloc (w := wr.drew) (o := (.cells #[Value.float .f32 x] 90)) hg5 hat5
        have HR5 : Hid (Row w5 g8 25 [.int .i64 st, .int .i64 sp, v, u]) := Row.grown (w := wr.drew.alloc (.cells #[Value.float .f32 x] 90)) (HR8.out.old ((Below.refl wr.heap.size wr).drew.alloc (Nat.le_refl _) (.cells #[Value.float .f32 x] 90))) hg5 NE8.out
        have HO5 : Hid (w5.ownsRow Bo 90 1 (.slice A5 (xs.length + j + 1) c5) (xs.length + (j + 1)) (flts (xs ++ ys.take (j + 1)))) := by
          unfold Hid; rw [HT.out, ← List.append_assoc, flts_app1]; exact ho5
        have hko := hst.keep (owns_below HU.out ((Below.refl wr.heap.size wr).drew)) HD.out
        have HU5 := Lib.hid hko.1; have HD5 := Lib.hid hko.2
        have hb5 : Below Bo wr w5 := (Below.refl Bo wr).drew.trans (hst.below (owns_below HO.out ((Below.refl wr.heap.size wr).drew)) HBo.out)
        have Hb5 := Lib.hid hb5
        have NV5 : Hid (((.slice A5 (xs.length + j + 1) c5) : Value).ownBlock ≠ some g8) := by
          rcases hst.2 with h | ⟨q, h, hq⟩
          · unfold Hid; rw [h]; exact fun e => NE8.out e.symm
          · unfold Hid; rw [h]; intro e; cases e; have := HR8.out.lt; have hq : wr.heap.size ≤ g8 := hq; omega
        clear hHeld hg5 hat5 ho5 z2 hst hko hb5
        go_wp2
        go_roundw
        case rel =>
          refine ⟨j + 1, .slice A5 (xs.length + j + 1) c5, by omega, by go_num, ?_, ?_, HD5, NV5, HR5.out.set 2 _, ?_, ?_⟩
          · exact owns_other g8 HO5.out (fun q _ hne => heap_setCell_other w5 ⟨g8, 2, none⟩ q _ hne) NV5.out
          · exact owns_other g8 HU5.out (fun q _ hne => heap_setCell_other w5 ⟨g8, 2, none⟩ q _ hne) NU.out
          · exact (HBK.out.trans Hb5.out).setCell (p := ⟨g8, 2, none⟩) (by show Bo ≤ g8; exact HG8.out) _
          · have h2 := ((Below.refl 0 w5).setCell (p := ⟨g8, 2, none⟩) (Nat.zero_le _) (.slice A5 (xs.length + j + 1) c5)).size
            have h3 := Hb5.out.size
            have h4 := HBo.out
            show Bo ≤ _
            omega
        case measure => simp [intOf]; omega
      ·
        go_simp
        refine hK.out _ _ ?_ (fun hHeld => ?_)
        · exact ⟨keepC hHeld.1 ((Below.refl _ _).alloc (Nat.le_refl _) _), keepC hHeld.2 ((Below.refl _ _).alloc (Nat.le_refl _) _)⟩
        clear hK K
        try simp only [Act.put, jA, jB, jC]
        refine wpAnyH_ready (rs := [1]) (by kernel_rfl) (by simp) ?_
        refine AllReadyH.cons rfl (fun K hK => ?_) (AllReadyH.nil)
        have z2 : (wr.alloc (.cells #[Value.float .f32 x] 90)).drew.cell? ⟨g8, 2, none⟩ = some v := keepC (W := wr) (HR8.out.cell 2) ((Below.refl _ wr).alloc (Nat.le_refl _) (.cells #[Value.float .f32 x] 90)).drew
        go_simp
        refine hK.out _ _ ?_ (fun hHeld => ?_)
        · exact hHeld
        clear hK K
        try simp only [Act.put, jA, jB, jC]
        refine wpAnyH_ready (rs := [8]) (by kernel_rfl) (by simp) ?_
        refine AllReadyH.cons rfl (fun K hK => ?_) (AllReadyH.nil)
        refine step_app2 rfl (.tmp 63) (.tmp 69) 22 rfl Bo 90 (.float .f32 0) 1 4 Tryz.underlying22 info37 rfl (by decide) v (xs.length + j) (flts (xs ++ ys.take j)) (by simp [Act.eval, Act.put]) (owns_below HO.out ((Below.refl wr.heap.size wr).drew.alloc (Nat.le_refl _) (.cells #[Value.float .f32 x] 90))) wr.heap.size 1 1 [.float .f32 x] (by simp [Act.eval, Act.put]) 90 (Row.new wr.drew 90 [.float .f32 x]) rfl (by simp [Value.oneCell']) (by unfold maxLen; omega) (by omega) (by have := HBo.out; simp; omega) ?_
        intro v5 w5 ho5 hg5 hat5
        obtain ⟨A5, c5, rfl, -⟩ := owned_slice ho5
        refine hK.out _ _ ?_ (fun hHeld => ?_)
        · exact ⟨cell_grown hHeld.1 hg5 NE1.out, cell_grown hHeld.2 hg5 NEB.out⟩
        clear hK K
        try simp only [Act.put, jA, jB, jC]
        refine wpAnyH_take (i := 9) (oi := ⟨some 71, _, _, _, _, _⟩) (v := ?_) rfl (by kernel_rfl) (by kernel_rfl) (by kernel_rfl) (fun _ _ _ h => h) (Or.inl ⟨by kernel_rfl, ?_⟩) hHeld ?_
        rotate_left
        · intro w1 hSw; (try dsimp only at hSw); go_simp <;> with_reducible rfl
        try simp only [Act.put, jA, jB, jC]
        refine wpAnyH_ready (rs := [10]) (by kernel_rfl) (by simp) ?_
        refine AllReadyH.cons rfl (fun K hK => ?_) (AllReadyH.nil)
        have z5 : Row w5 g8 25 [.int .i64 st, .int .i64 sp, v, u] := Row.grown (w := wr.drew.alloc (.cells #[Value.float .f32 x] 90)) (HR8.out.old ((Below.refl wr.heap.size wr).drew.alloc (Nat.le_refl _) (.cells #[Value.float .f32 x] 90))) hg5 NE8.out
        have m3 := z5.cell 2
        have mf := z5.free 2
        simp only [List.getElem?_cons_succ, List.getElem?_cons_zero] at m3
        go_simp
        refine hK.out _ _ ?_ (fun hHeld => ?_)
        · exact ⟨(cell_setfar _ (by show _ ≠ g8; have := HG8.out; have := HBL.out; have := HBoS.out; omega)).trans hHeld.1, (cell_setfar _ (by show _ ≠ g8; have := HG8.out; have := HBL.out; have := HBoS.out; omega)).trans hHeld.2⟩
        clear hK K
        try simp only [Act.put, jA, jB, jC]
        refine wpAnyH_done (by kernel_rfl) ?_ _
        have hst : Step wr.drew w5 v (.slice A5 (xs.length + j + 1) c5) := Step.of_alloc (w := wr.drew) (o := (.cells #[Value.float .f32 x] 90)) hg5 hat5
        have HR5 : Hid (Row w5 g8 25 [.int .i64 st, .int .i64 sp, v, u]) := Row.grown (w := wr.drew.alloc (.cells #[Value.float .f32 x] 90)) (HR8.out.old ((Below.refl wr.heap.size wr).drew.alloc (Nat.le_refl _) (.cells #[Value.float .f32 x] 90))) hg5 NE8.out
        have HO5 : Hid (w5.ownsRow Bo 90 1 (.slice A5 (xs.length + j + 1) c5) (xs.length + (j + 1)) (flts (xs ++ ys.take (j + 1)))) := by
          unfold Hid; rw [HT.out, ← List.append_assoc, flts_app1]; exact ho5
        have hko := hst.keep (owns_below HU.out ((Below.refl wr.heap.size wr).drew)) HD.out
        have HU5 := Lib.hid hko.1; have HD5 := Lib.hid hko.2
        have hb5 : Below Bo wr w5 := (Below.refl Bo wr).drew.trans (hst.below (owns_below HO.out ((Below.refl wr.heap.size wr).drew)) HBo.out)
        have Hb5 := Lib.hid hb5
        have NV5 : Hid (((.slice A5 (xs.length + j + 1) c5) : Value).ownBlock ≠ some g8) := by
          rcases hst.2 with h | ⟨q, h, hq⟩
          · unfold Hid; rw [h]; exact fun e => NE8.out e.symm
          · unfold Hid; rw [h]; intro e; cases e; have := HR8.out.lt; have hq : wr.heap.size ≤ g8 := hq; omega
        clear hHeld hg5 hat5 ho5 z2 hst hko hb5
        go_wp2
        go_roundw
        case rel =>
          refine ⟨j + 1, .slice A5 (xs.length + j + 1) c5, by omega, by go_num, ?_, ?_, HD5, NV5, HR5.out.set 2 _, ?_, ?_⟩
          · exact owns_other g8 HO5.out (fun q _ hne => heap_setCell_other w5 ⟨g8, 2, none⟩ q _ hne) NV5.out
          · exact owns_other g8 HU5.out (fun q _ hne => heap_setCell_other w5 ⟨g8, 2, none⟩ q _ hne) NU.out
          · exact (HBK.out.trans Hb5.out).setCell (p := ⟨g8, 2, none⟩) (by show Bo ≤ g8; exact HG8.out) _
          · have h2 := ((Below.refl 0 w5).setCell (p := ⟨g8, 2, none⟩) (Nat.zero_le _) (.slice A5 (xs.length + j + 1) c5)).size
            have h3 := Hb5.out.size
            have h4 := HBo.out
            show Bo ≤ _
            omega
        case measure => simp [intOf]; omega
    · obtain rfl : j = ys.length := by omega
      have hv := HO.out
      rw [List.take_of_length_le (Nat.le_refl _)] at hv
      have HV := Lib.hid hv
      have MU := HU; have MD := HD; have MN := NV; have M8 := HR8; have MK' := HBK; have MB := HBo
      clear hv HO HU HD NV HR8 HBK HBo hlt
      go_upto_region 11 with fail
      clear q2 q3 K1
      go_loopw [10] (fun i wr => ∃ (j : Nat) (u : Value), j ≤ ns.length ∧ i = .int .i64 j ∧ Hid (wr.ownsRow Bo 83 2 u (ms.length + j) (markC (ms ++ (ns.take j).map (shiftM xs.length)))) ∧ Hid (wr.ownsRow Bo 90 1 v (xs.length + ys.length) (flts (xs ++ ys))) ∧ Hid (v.ownBlock = none ∨ v.ownBlock ≠ u.ownBlock) ∧ Hid (u.ownBlock ≠ some g8) ∧ Hid (Row wr g8 25 [.int .i64 st, .int .i64 sp, v, u]) ∧ Hid (Below Bo W5 wr) ∧ Hid (Bo ≤ wr.heap.size)) (fun i _ => ns.length - (intOf i).toNat)
      case atStart => exact ⟨0, u, Nat.zero_le _, rfl, by show World.ownsRow _ _ _ _ _ _ _; simpa using MU.out, HV, dis_symm MD.out, NU, M8, MK', MB⟩
      case round =>
        have NV := MN
        clear MU MD M8 MK' MB HV MN
        obtain ⟨j, u, hj2, rfl, HO, HU, HD, NVu, HR8, HBK, HBo⟩ := hrel
        have K1 : Hid (Row wr (w.heap.size + 1) 25 [.int .i64 st2, .int .i64 sp2, .slice A2 ys.length c2, .slice B2 ns.length d2]) := I1.out.below HBK.out (by have := HBoS.out; omega)
        have q3 := K1.out.cell 3
        simp only [List.getElem?_cons_succ, List.getElem?_cons_zero] at q3
        by_cases hlt : j < ns.length
        · have i1 : (j : Int) < (ns.length : Int) := by omega
          obtain ⟨b, off, hAb, hc1, hc2⟩ := Rd.mark HB2.out hlt
          subst hAb
          obtain ⟨ix, hix⟩ : ∃ ix, ix = ns[j].1 := ⟨_, rfl⟩
          obtain ⟨nm, hnm⟩ : ∃ nm, nm = ns[j].2 := ⟨_, rfl⟩
          have hmk : ns[j] = (ix, nm) := by rw [hix, hnm]
          rw [← hix] at hc1; rw [← hnm] at hc2
          obtain ⟨iz, hiz⟩ : ∃ iz, iz = wrap64 (ix + (xs.length : Int)) := ⟨_, rfl⟩
          have HT : Hid (ms ++ (ns.take (j + 1)).map (shiftM xs.length) = ms ++ ((ns.take j).map (shiftM xs.length) ++ [(iz, nm)])) := by
            unfold Hid; rw [List.take_succ_eq_append_getElem hlt, List.map_append, hmk, hiz]; rfl
          have eZ : IntKind.i64.wrap (ix + (xs.length : Int)) = iz := (IntWalk.i64_left _).trans hiz.symm
          have HBL : Hid (b < w.heap.size) := World.block_lt_of_cell? _ _ hc1
          have hww := IB.out.trans (HBK.out.mono (show w.heap.size ≤ Bo by have := HBoS.out; omega))
          have QX : Hid (wr.cell? ⟨b, off + j * 2, none⟩ = some (.int .i64 ix)) := (hww.cell HBL.out).trans hc1
          have QN : Hid (wr.cell? ⟨b, off + j * 2 + 1, none⟩ = some (.string nm)) := (hww.cell HBL.out).trans hc2
          have Q2 := Lib.hid q3
          have NE1 : Hid (some (w.heap.size + 1) ≠ u.ownBlock) := own_nb HO.out (by have := HBoS.out; omega)
          have NEB : Hid (some b ≠ u.ownBlock) := own_nb HO.out (by have := HBoS.out; have := HBL.out; omega)
          have NE8 : Hid (some g8 ≠ u.ownBlock) := fun e => NVu.out e.symm
          have NU := NV
          clear hix hnm hmk hc1 hc2 hiz hww
          go_upto_region 13 with fail
          clear q3
          refine wp_region_held_drew (S := fun w' => w'.cell? ⟨w.heap.size + 1, 3, none⟩ = some (.slice (some ⟨b, off, none⟩) ns.length d2) ∧ w'.cell? ⟨b, off + j * 2, none⟩ = some (.int .i64 ix) ∧ w'.cell? ⟨b, off + j * 2 + 1, none⟩ = some (.string nm)) (by kernel_rfl) ?_ (fun hHeld => ?_)
          · exact ⟨Q2.out, QX.out, QN.out⟩
          refine wpAnyH_take (i := 0) (oi := ⟨some 79, _, _, _, _, _⟩) (v := ?_) rfl (by kernel_rfl) (by kernel_rfl) (by kernel_rfl) (fun _ _ _ h => h) (Or.inl ⟨by kernel_rfl, ?_⟩) hHeld ?_
          rotate_left
          · intro w1 hSw; (try dsimp only at hSw); go_simp <;> with_reducible rfl
          try simp only [Act.put, jA, jB, jC]
          refine wpAnyH_take (i := 2) (oi := ⟨some 81, _, _, _, _, _⟩) (v := ?_) rfl (by kernel_rfl) (by kernel_rfl) (by kernel_rfl) (fun _ _ _ h => h) (Or.inl ⟨by kernel_rfl, ?_⟩) hHeld ?_
          rotate_left
          · intro w1 hSw; (try dsimp only at hSw); go_simp <;> with_reducible rfl
          try simp only [Act.put, jA, jB, jC]
          refine wpAnyH_take (i := 3) (oi := ⟨some 82, _, _, _, _, _⟩) (v := ?_) rfl (by kernel_rfl) (by kernel_rfl) (by kernel_rfl) (fun _ _ _ h => h) (Or.inl ⟨by kernel_rfl, ?_⟩) hHeld ?_
          rotate_left
          · intro w1 hSw; (try dsimp only at hSw); go_simp <;> with_reducible rfl
          try simp only [Act.put, jA, jB, jC]
          refine wpAnyH_take (i := 4) (oi := ⟨some 83, _, _, _, _, _⟩) (v := ?_) rfl (by kernel_rfl) (by kernel_rfl) (by kernel_rfl) (fun _ _ _ h => h) (Or.inl ⟨by kernel_rfl, ?_⟩) hHeld ?_
          rotate_left
          · intro w1 hSw; (try dsimp only at hSw); go_simp <;> with_reducible rfl
          try simp only [Act.put, jA, jB, jC]
          refine wpAnyH_take (i := 5) (oi := ⟨some 84, _, _, _, _, _⟩) (v := ?_) rfl (by kernel_rfl) (by kernel_rfl) (by kernel_rfl) (fun _ _ _ h => h) (Or.inl ⟨by kernel_rfl, ?_⟩) hHeld ?_
          rotate_left
          · intro w1 hSw; (try dsimp only at hSw); go_simp <;> with_reducible rfl
          try simp only [Act.put, jA, jB, jC]
          refine wpAnyH_take (i := 6) (oi := ⟨some 85, _, _, _, _, _⟩) (v := ?_) rfl (by kernel_rfl) (by kernel_rfl) (by kernel_rfl) (fun _ _ _ h => h) (Or.inl ⟨by kernel_rfl, ?_⟩) hHeld ?_
          rotate_left
          · intro w1 hSw; (try dsimp only at hSw); go_simp <;> with_reducible rfl
          try simp only [Act.put, jA, jB, jC]
          refine wpAnyH_take (i := 7) (oi := ⟨some 86, _, _, _, _, _⟩) (v := ?_) rfl (by kernel_rfl) (by kernel_rfl) (by kernel_rfl) (fun _ _ _ h => h) (Or.inl ⟨by kernel_rfl, ?_⟩) hHeld ?_
          rotate_left
          · intro w1 hSw; (try dsimp only at hSw); go_simp <;> with_reducible rfl
          try simp only [Act.put, jA, jB, jC]
          refine wpAnyH_take (i := 8) (oi := ⟨some 87, _, _, _, _, _⟩) (v := ?_) rfl (by kernel_rfl) (by kernel_rfl) (by kernel_rfl) (fun _ _ _ h => h) (Or.inl ⟨by kernel_rfl, ?_⟩) hHeld ?_
          rotate_left
          · intro w1 hSw; (try dsimp only at hSw); go_simp <;> with_reducible rfl
          try simp only [Act.put, jA, jB, jC]
          refine wpAnyH_take (i := 9) (oi := ⟨some 88, _, _, _, _, _⟩) (v := ?_) rfl (by kernel_rfl) (by kernel_rfl) (by kernel_rfl) (fun _ _ _ h => h) (Or.inl ⟨by kernel_rfl, ?_⟩) hHeld ?_
          rotate_left
          · intro w1 hSw; (try dsimp only at hSw); go_simp <;> with_reducible rfl
          try simp only [Act.put, jA, jB, jC]
          refine wpAnyH_take (i := 10) (oi := ⟨some 89, _, _, _, _, _⟩) (v := ?_) rfl (by kernel_rfl) (by kernel_rfl) (by kernel_rfl) (fun _ _ _ h => h) (Or.inl ⟨by kernel_rfl, ?_⟩) hHeld ?_
          rotate_left
          · intro w1 hSw; (try dsimp only at hSw); go_simp <;> with_reducible rfl
          try simp only [Act.put, jA, jB, jC]
          refine wpAnyH_take (i := 11) (oi := ⟨some 90, _, _, _, _, _⟩) (v := ?_) rfl (by kernel_rfl) (by kernel_rfl) (by kernel_rfl) (fun _ _ _ h => h) (Or.inl ⟨by kernel_rfl, ?_⟩) hHeld ?_
          rotate_left
          · intro w1 hSw; (try dsimp only at hSw); go_simp <;> with_reducible rfl
          try simp only [Act.put, jA, jB, jC]
          refine wpAnyH_take (i := 12) (oi := ⟨some 91, _, _, _, _, _⟩) (v := ?_) rfl (by kernel_rfl) (by kernel_rfl) (by kernel_rfl) (fun _ _ _ h => h) (Or.inl ⟨by kernel_rfl, ?_⟩) hHeld ?_
          rotate_left
          · intro w1 hSw; (try dsimp only at hSw); go_simp <;> with_reducible rfl
          try simp only [Act.put, jA, jB, jC]
          refine wpAnyH_take (i := 13) (oi := ⟨some 92, _, _, _, _, _⟩) (v := ?_) rfl (by kernel_rfl) (by kernel_rfl) (by kernel_rfl) (fun _ _ _ h => h) (Or.inl ⟨by kernel_rfl, ?_⟩) hHeld ?_
          rotate_left
          · intro w1 hSw; (try dsimp only at hSw); go_simp <;> with_reducible rfl
          try simp only [Act.put, jA, jB, jC]
          refine wpAnyH_take (i := 14) (oi := ⟨some 93, _, _, _, _, _⟩) (v := ?_) rfl (by kernel_rfl) (by kernel_rfl) (by kernel_rfl) (fun _ _ _ h => h) (Or.inl ⟨by kernel_rfl, ?_⟩) hHeld ?_
          rotate_left
          · intro w1 hSw; (try dsimp only at hSw); go_simp <;> with_reducible rfl
          try simp only [Act.put, jA, jB, jC]
          refine wpAnyH_take (i := 15) (oi := ⟨some 94, _, _, _, _, _⟩) (v := ?_) rfl (by kernel_rfl) (by kernel_rfl) (by kernel_rfl) (fun _ _ _ h => h) (Or.inl ⟨by kernel_rfl, ?_⟩) hHeld ?_
          rotate_left
          · intro w1 hSw; (try dsimp only at hSw); go_simp <;> with_reducible rfl
          try simp only [Act.put, jA, jB, jC]
          refine wpAnyH_take (i := 16) (oi := ⟨some 95, _, _, _, _, _⟩) (v := ?_) rfl (by kernel_rfl) (by kernel_rfl) (by kernel_rfl) (fun _ _ _ h => h) (Or.inl ⟨by kernel_rfl, ?_⟩) hHeld ?_
          rotate_left
          · intro w1 hSw; (try dsimp only at hSw); go_simp <;> with_reducible rfl
          try simp only [Act.put, jA, jB, jC]
          refine wpAnyH_ready (rs := [1, 17]) (by kernel_rfl) (by simp) ?_
          refine AllReadyH.cons rfl (fun K hK => ?_) (AllReadyH.cons rfl (fun K hK => ?_) (AllReadyH.nil))
          ·
            have z2 : (wr.drew).cell? ⟨g8, 3, none⟩ = some u := HR8.out.cell 3
            go_simp
            refine hK.out _ _ ?_ (fun hHeld => ?_)
            · exact hHeld
            clear hK K
            try simp only [Act.put, jA, jB, jC]
            refine wpAnyH_ready (rs := [17]) (by kernel_rfl) (by simp) ?_
            refine AllReadyH.cons rfl (fun K hK => ?_) (AllReadyH.nil)
            go_simp
            refine hK.out _ _ ?_ (fun hHeld => ?_)
            · exact ⟨keepC hHeld.1 ((Below.refl _ _).alloc (Nat.le_refl _) _), keepC hHeld.2.1 ((Below.refl _ _).alloc (Nat.le_refl _) _), keepC hHeld.2.2 ((Below.refl _ _).alloc (Nat.le_refl _) _)⟩
            clear hK K
            try simp only [Act.put, jA, jB, jC]
            refine wpAnyH_ready (rs := [18]) (by kernel_rfl) (by simp) ?_
            refine AllReadyH.cons rfl (fun K hK => ?_) (AllReadyH.nil)
            refine step_app2 rfl (.tmp 80) (.tmp 96) 23 rfl Bo 83 (.agg #[.int .i64 0, .string ⟨#[]⟩]) 2 24 Tryz.underlying23 info185 rfl (by decide) u (ms.length + j) (markC (ms ++ (ns.take j).map (shiftM xs.length))) (by simp [Act.eval, Act.put]) (owns_below HO.out ((Below.refl wr.heap.size wr).drew.alloc (Nat.le_refl _) (.cells #[Value.int .i64 iz, Value.string nm] 83))) wr.heap.size 1 1 [.int .i64 iz, .string nm] (by simp [Act.eval, Act.put]) 83 (Row.new wr.drew 83 [.int .i64 iz, .string nm]) rfl (by simp [Value.oneCell']) (by unfold maxLen; omega) (by omega) (by have := HBo.out; simp; omega) ?_
            intro v5 w5 ho5 hg5 hat5
            obtain ⟨A5, c5, rfl, -⟩ := owned_slice ho5
            refine hK.out _ _ ?_ (fun hHeld => ?_)
            · exact ⟨cell_grown hHeld.1 hg5 NE1.out, cell_grown hHeld.2.1 hg5 NEB.out, cell_grown hHeld.2.2 hg5 NEB.out⟩
            clear hK K
            try simp only [Act.put, jA, jB, jC]
            refine wpAnyH_take (i := 19) (oi := ⟨some 98, _, _, _, _, _⟩) (v := ?_) rfl (by kernel_rfl) (by kernel_rfl) (by kernel_rfl) (fun _ _ _ h => h) (Or.inl ⟨by kernel_rfl, ?_⟩) hHeld ?_
            rotate_left
            · intro w1 hSw; (try dsimp only at hSw); go_simp <;> with_reducible rfl
            try simp only [Act.put, jA, jB, jC]
            refine wpAnyH_ready (rs := [20]) (by kernel_rfl) (by simp) ?_
            refine AllReadyH.cons rfl (fun K hK => ?_) (AllReadyH.nil)
            have z5 : Row w5 g8 25 [.int .i64 st, .int .i64 sp, v, u] := Row.grown (w := wr.drew.alloc (.cells #[Value.int .i64 iz, Value.string nm] 83)) (HR8.out.old ((Below.refl wr.heap.size wr).drew.alloc (Nat.le_refl _) (.cells #[Value.int .i64 iz, Value.string nm] 83))) hg5 NE8.out
            have m3 := z5.cell 3
            have mf := z5.free 3
            simp only [List.getElem?_cons_succ, List.getElem?_cons_zero] at m3
            go_simp
            refine hK.out _ _ ?_ (fun hHeld => ?_)
            · exact ⟨(cell_setfar _ (by show _ ≠ g8; have := HG8.out; have := HBL.out; have := HBoS.out; omega)).trans hHeld.1, (cell_setfar _ (by show _ ≠ g8; have := HG8.out; have := HBL.out; have := HBoS.out; omega)).trans hHeld.2.1, (cell_setfar _ (by show _ ≠ g8; have := HG8.out; have := HBL.out; have := HBoS.out; omega)).trans hHeld.2.2⟩
            clear hK K
            try simp only [Act.put, jA, jB, jC]
            refine wpAnyH_done (by kernel_rfl) ?_ _
            have hst : Step wr.drew w5 u (.slice A5 (ms.length + j + 1) c5) := Step.of_alloc (w := wr.drew) (o := (.cells #[Value.int .i64 iz, Value.string nm] 83)) hg5 hat5
            have HR5 : Hid (Row w5 g8 25 [.int .i64 st, .int .i64 sp, v, u]) := Row.grown (w := wr.drew.alloc (.cells #[Value.int .i64 iz, Value.string nm] 83)) (HR8.out.old ((Below.refl wr.heap.size wr).drew.alloc (Nat.le_refl _) (.cells #[Value.int .i64 iz, Value.string nm] 83))) hg5 NE8.out
            have HO5 : Hid (w5.ownsRow Bo 83 2 (.slice A5 (ms.length + j + 1) c5) (ms.length + (j + 1)) (markC (ms ++ (ns.take (j + 1)).map (shiftM xs.length)))) := by
              unfold Hid; rw [HT.out, ← List.append_assoc, markC_app]; exact ho5
            have hko := hst.keep (owns_below HU.out ((Below.refl wr.heap.size wr).drew)) HD.out
            have HU5 := Lib.hid hko.1; have HD5 := Lib.hid hko.2
            have hb5 : Below Bo wr w5 := (Below.refl Bo wr).drew.trans (hst.below (owns_below HO.out ((Below.refl wr.heap.size wr).drew)) HBo.out)
            have Hb5 := Lib.hid hb5
            have NV5 : Hid (((.slice A5 (ms.length + j + 1) c5) : Value).ownBlock ≠ some g8) := by
              rcases hst.2 with h | ⟨q, h, hq⟩
              · unfold Hid; rw [h]; exact fun e => NE8.out e.symm
              · unfold Hid; rw [h]; intro e; cases e; have := HR8.out.lt; have hq : wr.heap.size ≤ g8 := hq; omega
            clear hHeld hg5 hat5 ho5 z2 hst hko hb5
            go_wp2
            go_roundw
            case rel =>
              refine ⟨j + 1, .slice A5 (ms.length + j + 1) c5, by omega, by go_num, ?_, ?_, HD5, NV5, HR5.out.set 3 _, ?_, ?_⟩
              · exact owns_other g8 HO5.out (fun q _ hne => heap_setCell_other w5 ⟨g8, 3, none⟩ q _ hne) NV5.out
              · exact owns_other g8 HU5.out (fun q _ hne => heap_setCell_other w5 ⟨g8, 3, none⟩ q _ hne) NU.out
              · exact (HBK.out.trans Hb5.out).setCell (p := ⟨g8, 3, none⟩) (by show Bo ≤ g8; exact HG8.out) _
              · have h2 := ((Below.refl 0 w5).setCell (p := ⟨g8, 3, none⟩) (Nat.zero_le _) (.slice A5 (ms.length + j + 1) c5)).size
                have h3 := Hb5.out.size
                have h4 := HBo.out
                show Bo ≤ _
                omega
            case measure => simp [intOf]; omega
          ·
            go_simp
            refine hK.out _ _ ?_ (fun hHeld => ?_)
            · exact ⟨keepC hHeld.1 ((Below.refl _ _).alloc (Nat.le_refl _) _), keepC hHeld.2.1 ((Below.refl _ _).alloc (Nat.le_refl _) _), keepC hHeld.2.2 ((Below.refl _ _).alloc (Nat.le_refl _) _)⟩
            clear hK K
            try simp only [Act.put, jA, jB, jC]
            refine wpAnyH_ready (rs := [1]) (by kernel_rfl) (by simp) ?_
            refine AllReadyH.cons rfl (fun K hK => ?_) (AllReadyH.nil)
            have z2 : (wr.alloc (.cells #[Value.int .i64 iz, Value.string nm] 83)).drew.cell? ⟨g8, 3, none⟩ = some u := keepC (W := wr) (HR8.out.cell 3) ((Below.refl _ wr).alloc (Nat.le_refl _) (.cells #[Value.int .i64 iz, Value.string nm] 83)).drew
            go_simp
            refine hK.out _ _ ?_ (fun hHeld => ?_)
            · exact hHeld
            clear hK K
            try simp only [Act.put, jA, jB, jC]
            refine wpAnyH_ready (rs := [18]) (by kernel_rfl) (by simp) ?_
            refine AllReadyH.cons rfl (fun K hK => ?_) (AllReadyH.nil)
            refine step_app2 rfl (.tmp 80) (.tmp 96) 23 rfl Bo 83 (.agg #[.int .i64 0, .string ⟨#[]⟩]) 2 24 Tryz.underlying23 info185 rfl (by decide) u (ms.length + j) (markC (ms ++ (ns.take j).map (shiftM xs.length))) (by simp [Act.eval, Act.put]) (owns_below HO.out ((Below.refl wr.heap.size wr).drew.alloc (Nat.le_refl _) (.cells #[Value.int .i64 iz, Value.string nm] 83))) wr.heap.size 1 1 [.int .i64 iz, .string nm] (by simp [Act.eval, Act.put]) 83 (Row.new wr.drew 83 [.int .i64 iz, .string nm]) rfl (by simp [Value.oneCell']) (by unfold maxLen; omega) (by omega) (by have := HBo.out; simp; omega) ?_
            intro v5 w5 ho5 hg5 hat5
            obtain ⟨A5, c5, rfl, -⟩ := owned_slice ho5
            refine hK.out _ _ ?_ (fun hHeld => ?_)
            · exact ⟨cell_grown hHeld.1 hg5 NE1.out, cell_grown hHeld.2.1 hg5 NEB.out, cell_grown hHeld.2.2 hg5 NEB.out⟩
            clear hK K
            try simp only [Act.put, jA, jB, jC]
            refine wpAnyH_take (i := 19) (oi := ⟨some 98, _, _, _, _, _⟩) (v := ?_) rfl (by kernel_rfl) (by kernel_rfl) (by kernel_rfl) (fun _ _ _ h => h) (Or.inl ⟨by kernel_rfl, ?_⟩) hHeld ?_
            rotate_left
            · intro w1 hSw; (try dsimp only at hSw); go_simp <;> with_reducible rfl
            try simp only [Act.put, jA, jB, jC]
            refine wpAnyH_ready (rs := [20]) (by kernel_rfl) (by simp) ?_
            refine AllReadyH.cons rfl (fun K hK => ?_) (AllReadyH.nil)
            have z5 : Row w5 g8 25 [.int .i64 st, .int .i64 sp, v, u] := Row.grown (w := wr.drew.alloc (.cells #[Value.int .i64 iz, Value.string nm] 83)) (HR8.out.old ((Below.refl wr.heap.size wr).drew.alloc (Nat.le_refl _) (.cells #[Value.int .i64 iz, Value.string nm] 83))) hg5 NE8.out
            have m3 := z5.cell 3
            have mf := z5.free 3
            simp only [List.getElem?_cons_succ, List.getElem?_cons_zero] at m3
            go_simp
            refine hK.out _ _ ?_ (fun hHeld => ?_)
            · exact ⟨(cell_setfar _ (by show _ ≠ g8; have := HG8.out; have := HBL.out; have := HBoS.out; omega)).trans hHeld.1, (cell_setfar _ (by show _ ≠ g8; have := HG8.out; have := HBL.out; have := HBoS.out; omega)).trans hHeld.2.1, (cell_setfar _ (by show _ ≠ g8; have := HG8.out; have := HBL.out; have := HBoS.out; omega)).trans hHeld.2.2⟩
            clear hK K
            try simp only [Act.put, jA, jB, jC]
            refine wpAnyH_done (by kernel_rfl) ?_ _
            have hst : Step wr.drew w5 u (.slice A5 (ms.length + j + 1) c5) := Step.of_alloc (w := wr.drew) (o := (.cells #[Value.int .i64 iz, Value.string nm] 83)) hg5 hat5
            have HR5 : Hid (Row w5 g8 25 [.int .i64 st, .int .i64 sp, v, u]) := Row.grown (w := wr.drew.alloc (.cells #[Value.int .i64 iz, Value.string nm] 83)) (HR8.out.old ((Below.refl wr.heap.size wr).drew.alloc (Nat.le_refl _) (.cells #[Value.int .i64 iz, Value.string nm] 83))) hg5 NE8.out
            have HO5 : Hid (w5.ownsRow Bo 83 2 (.slice A5 (ms.length + j + 1) c5) (ms.length + (j + 1)) (markC (ms ++ (ns.take (j + 1)).map (shiftM xs.length)))) := by
              unfold Hid; rw [HT.out, ← List.append_assoc, markC_app]; exact ho5
            have hko := hst.keep (owns_below HU.out ((Below.refl wr.heap.size wr).drew)) HD.out
            have HU5 := Lib.hid hko.1; have HD5 := Lib.hid hko.2
            have hb5 : Below Bo wr w5 := (Below.refl Bo wr).drew.trans (hst.below (owns_below HO.out ((Below.refl wr.heap.size wr).drew)) HBo.out)
            have Hb5 := Lib.hid hb5
            have NV5 : Hid (((.slice A5 (ms.length + j + 1) c5) : Value).ownBlock ≠ some g8) := by
              rcases hst.2 with h | ⟨q, h, hq⟩
              · unfold Hid; rw [h]; exact fun e => NE8.out e.symm
              · unfold Hid; rw [h]; intro e; cases e; have := HR8.out.lt; have hq : wr.heap.size ≤ g8 := hq; omega
            clear hHeld hg5 hat5 ho5 z2 hst hko hb5
            go_wp2
            go_roundw
            case rel =>
              refine ⟨j + 1, .slice A5 (ms.length + j + 1) c5, by omega, by go_num, ?_, ?_, HD5, NV5, HR5.out.set 3 _, ?_, ?_⟩
              · exact owns_other g8 HO5.out (fun q _ hne => heap_setCell_other w5 ⟨g8, 3, none⟩ q _ hne) NV5.out
              · exact owns_other g8 HU5.out (fun q _ hne => heap_setCell_other w5 ⟨g8, 3, none⟩ q _ hne) NU.out
              · exact (HBK.out.trans Hb5.out).setCell (p := ⟨g8, 3, none⟩) (by show Bo ≤ g8; exact HG8.out) _
              · have h2 := ((Below.refl 0 w5).setCell (p := ⟨g8, 3, none⟩) (Nat.zero_le _) (.slice A5 (ms.length + j + 1) c5)).size
                have h3 := Hb5.out.size
                have h4 := HBo.out
                show Bo ≤ _
                omega
            case measure => simp [intOf]; omega
        · obtain rfl : j = ns.length := by omega
          have hu := HO.out
          rw [List.take_of_length_le (Nat.le_refl _)] at hu
          obtain ⟨A2', c2', rfl, -⟩ := owned_slice HU.out
          obtain ⟨A3, c3, rfl, -⟩ := owned_slice hu
          have KU := Lib.hid hu
          have K2 : Hid (Row wr (w.heap.size + 1 + 1) 25 zero4) := I2.out.below HBK.out (by have := HBoS.out; omega)
          have hww := Lib.hid (IB.out.trans (HBK.out.mono (show w.heap.size ≤ Bo by have := HBoS.out; omega)))
          have z1 := HBoS.out
          clear hu HO hlt
          go_wp2_with (first
            | (refine wpList_load_row rfl 25 _ rfl g8 rfl 25 #[.int .i64 st, .int .i64 sp, .slice A2' (xs.length + ys.length) c2', .slice A3 (ms.length + ns.length) c3] (0, 0) _ HR8.out Tryz.underlying25 rfl ?_ ?_; (kernel_rfl))
            | (refine wpList_store_row rfl 25 _ _ rfl (w.heap.size + 1 + 1) #[.int .i64 st, .int .i64 sp, .slice A2' (xs.length + ys.length) c2', .slice A3 (ms.length + ns.length) c3] rfl rfl 25 _ K2.out ?_ ?_ ?_ ?_; (kernel_rfl); (rfl); (simp [Value.oneCell'])))
          refine bodyPost_ret (results_row_tmp rfl _ _ (w.heap.size + 1 + 1) 25 _ (0, 0) _ rfl (K2.out.setRow [.int .i64 st, .int .i64 sp, .slice A2' (xs.length + ys.length) c2', .slice A3 (ms.length + ns.length) c3]) Tryz.underlying25 rfl (by kernel_rfl)) rfl ⟨_, _, rfl, ?_, ?_, ?_⟩
          · exact owns_far HU.out _ _ (by omega) (by omega)
          · exact owns_far KU.out _ _ (by omega) (by omega)
          · exact Below.setRow hww.out (by omega) _
end Go.Proofs.YtphgfiihccofnaaGreatDoor
