import Derived.Test.YtphgfiihccofnaaGreatDoorM21
/- Contracts: two recordings that are not joined. -/
namespace Go.Proofs.YtphgfiihccofnaaGreatDoor
set_option linter.all false
open Go.RowKit Go.Fl
set_option linter.unusedVariables false
set_option linter.unusedSimpArgs false
def iA := @List.setIfInBounds_toArray
def iB := @List.set_cons_zero
def iC := @List.set_cons_succ

/-- the errors of two recordings to each other -/
def pairE (st sp : Int) (n m : Nat) (st2 sp2 : Int) (n2 m2 : Nat) : List Int := [whenI (sp != sp2) 2, whenI (st2 != tickI st sp n) 11, whenI (decide ((4096 : Int) < (n : Int) + (n2 : Int))) 5, whenI (decide ((16 : Int) < (m : Int) + (m2 : Int))) 5]
def jointE (st sp : Int) (xs : List Nat) (ms : List (Int × ByteArray)) (st2 sp2 : Int) (ys : List Nat) (ns : List (Int × ByteArray)) : Int := firstI (recI st sp xs ms :: recI st2 sp2 ys ns :: pairE st sp xs.length ms.length st2 sp2 ys.length ns.length)

set_option maxRecDepth 100000 in
set_option maxHeartbeats 4000000 in
theorem joined_bad (st sp : Int) (A1 B1 A2 B2 : Option Addr) (n1 c1 m1 d1 n2 c2 m2 d2 : Nat) (xs ys : List Nat) (ms ns : List (Int × ByteArray)) (st2 sp2 : Int) (w : World) (hA1 : Rd w A1 (flts xs)) (hB1 : Rd w B1 (markC ms)) (hA2 : Rd w A2 (flts ys)) (hB2 : Rd w B2 (markC ns)) (hn1 : n1 = xs.length) (hm1 : m1 = ms.length) (hn2 : n2 = ys.length) (hm2 : m2 = ns.length)
    (hx : xs.length ≤ 1000000) (hy : ys.length ≤ 1000000) (hms : ms.length ≤ 1000000) (hns : ns.length ≤ 1000000) (hE : jointE st sp xs ms st2 sp2 ys ns ≠ 0) :
    Calls Tryz.prog 19 #[.agg #[.int .i64 st, .int .i64 sp, .slice A1 n1 c1, .slice B1 m1 d1], .agg #[.int .i64 st2, .int .i64 sp2, .slice A2 n2 c2, .slice B2 m2 d2]] w
      fun e w' => e = .returned (.tuple #[.agg #[.int .i64 0, .int .i64 0, .slice none 0 0, .slice none 0 0], .int .i64 (jointE st sp xs ms st2 sp2 ys ns)]) ∧ Below w.heap.size w w' := by
  subst hn1; subst hm1; subst hn2; subst hm2
  have HA1 : Hid (∀ W, Below w.heap.size w W → Rd W A1 (flts xs)) := fun W h => hA1.below h
  have HB1 : Hid (∀ W, Below w.heap.size w W → Rd W B1 (markC ms)) := fun W h => hB1.below h
  have HA2 : Hid (∀ W, Below w.heap.size w W → Rd W A2 (flts ys)) := fun W h => hA2.below h
  have HB2 : Hid (∀ W, Below w.heap.size w W → Rd W B2 (markC ns)) := fun W h => hB2.below h
  obtain ⟨r1, hr1⟩ : ∃ r1, r1 = recI st sp xs ms := ⟨_, rfl⟩
  obtain ⟨r2, hr2⟩ : ∃ r2, r2 = recI st2 sp2 ys ns := ⟨_, rfl⟩
  obtain ⟨ti, hti⟩ : ∃ ti, ti = tickI st sp xs.length := ⟨_, rfl⟩
  obtain ⟨EE, hEE⟩ : ∃ EE, EE = jointE st sp xs ms st2 sp2 ys ns := ⟨_, rfl⟩
  have HR1I := Lib.hid hr1; have HR2I := Lib.hid hr2; have HTI := Lib.hid hti
  have HE0 : (EE != 0) = true := by rw [hEE]; simpa using hE
  have HEE : Hid (EE = firstI [r1, r2, whenI (sp != sp2) 2, whenI (st2 != ti) 11, whenI (decide ((4096 : Int) < (xs.length : Int) + (ys.length : Int))) 5, whenI (decide ((16 : Int) < (ms.length : Int) + (ns.length : Int))) 5]) := by
    unfold Hid; rw [hEE, jointE, pairE, hr1, hr2, hti]
  rw [← hEE]
  clear hA1 hB1 hA2 hB2 hr1 hr2 hti hEE hE
  have R0 := Row.new w 32 [.int .i64 st, .int .i64 sp, .slice A1 xs.length c1, .slice B1 ms.length d1]
  have R1 := Row.new (w.alloc (.cells #[.int .i64 st, .int .i64 sp, .slice A1 xs.length c1, .slice B1 ms.length d1] 32)) 32 [.int .i64 st2, .int .i64 sp2, .slice A2 ys.length c2, .slice B2 ns.length d2]
  have R2 := Row.new ((w.alloc (.cells #[.int .i64 st, .int .i64 sp, .slice A1 xs.length c1, .slice B1 ms.length d1] 32)).alloc (.cells #[.int .i64 st2, .int .i64 sp2, .slice A2 ys.length c2, .slice B2 ns.length d2] 32)) 32 zero4
  rw [World.size_alloc] at R1
  rw [World.size_alloc, World.size_alloc] at R2
  have R0' := (R0.alloc (.cells #[.int .i64 st2, .int .i64 sp2, .slice A2 ys.length c2, .slice B2 ns.length d2] 32)).alloc (.cells zero4.toArray 32)
  have R1' := R1.alloc (.cells zero4.toArray 32)
  have RB := (((Below.refl w.heap.size w).alloc (Nat.le_refl _) (.cells #[.int .i64 st, .int .i64 sp, .slice A1 xs.length c1, .slice B1 ms.length d1] 32)).alloc (by simp) (.cells #[.int .i64 st2, .int .i64 sp2, .slice A2 ys.length c2, .slice B2 ns.length d2] 32)).alloc (by simp; omega) (.cells zero4.toArray 32)
  have HR0 := Lib.hid R0'; have HR1 := Lib.hid R1'; have HR2 := Lib.hid R2; have HRB := Lib.hid RB
  clear R0 R1 R2 R0' R1' RB
  have hxy1 : IntKind.i64.wrap ((xs.length : Int) + (ys.length : Int)) = (xs.length : Int) + (ys.length : Int) := IntWalk.i64_in _ (by omega)
  have hmn1 : IntKind.i64.wrap ((ms.length : Int) + (ns.length : Int)) = (ms.length : Int) + (ns.length : Int) := IntWalk.i64_in _ (by omega)
  go_enter Tryz.func19, Tryz.ntmps19
  go_upto_region 1 with fail
  refine genD (w0 := w) w.heap.size (w.heap.size + 1) (w.heap.size + 1 + 1) _ _ _ _ _ _ HR0.out HR1.out HR2.out HRB.out ?_
  clear HR0 HR1 HR2 HRB
  intro W R0 R1 R2 RB
  have G0 := Lib.hid R0; have G1 := Lib.hid R1; have G2 := Lib.hid R2; have GB := Lib.hid RB
  have s2 := R2.lt
  have S2 := Lib.hid s2
  clear R0 R1 R2 RB s2
  refine wp_region_held_drew (S := fun w' => w'.cell? ⟨w.heap.size, 0, none⟩ = some (.int .i64 st) ∧ w'.cell? ⟨w.heap.size, 1, none⟩ = some (.int .i64 sp) ∧ w'.cell? ⟨w.heap.size, 2, none⟩ = some (.slice A1 xs.length c1) ∧ w'.cell? ⟨w.heap.size, 3, none⟩ = some (.slice B1 ms.length d1) ∧ w'.cell? ⟨w.heap.size + 1, 0, none⟩ = some (.int .i64 st2) ∧ w'.cell? ⟨w.heap.size + 1, 1, none⟩ = some (.int .i64 sp2) ∧ w'.cell? ⟨w.heap.size + 1, 2, none⟩ = some (.slice A2 ys.length c2) ∧ w'.cell? ⟨w.heap.size + 1, 3, none⟩ = some (.slice B2 ns.length d2) ∧ Below W.heap.size W w') (by kernel_rfl) ?_ (fun hHeld => ?_)
  · exact ⟨G0.out.cell 0, G0.out.cell 1, G0.out.cell 2, G0.out.cell 3, G1.out.cell 0, G1.out.cell 1, G1.out.cell 2, G1.out.cell 3, (Below.refl _ _).drew⟩
  refine wpAnyH_take (i := 0) (oi := ⟨some 10, _, _, _, _, _⟩) (v := ?_) rfl (by kernel_rfl) (by kernel_rfl) (by kernel_rfl) (fun _ _ _ h => h) (Or.inl ⟨by kernel_rfl, ?_⟩) hHeld ?_
  rotate_left
  · intro w1 hSw; (try dsimp only at hSw); go_simp <;> with_reducible rfl
  try simp only [Act.put, iA, iB, iC]
  refine wpAnyH_take (i := 2) (oi := ⟨some 12, _, _, _, _, _⟩) (v := ?_) rfl (by kernel_rfl) (by kernel_rfl) (by kernel_rfl) (fun _ _ _ h => h) (Or.inl ⟨by kernel_rfl, ?_⟩) hHeld ?_
  rotate_left
  · intro w1 hSw; (try dsimp only at hSw); go_simp <;> with_reducible rfl
  try simp only [Act.put, iA, iB, iC]
  refine wpAnyH_take (i := 4) (oi := ⟨some 14, _, _, _, _, _⟩) (v := ?_) rfl (by kernel_rfl) (by kernel_rfl) (by kernel_rfl) (fun _ _ _ h => h) (Or.inl ⟨by kernel_rfl, ?_⟩) hHeld ?_
  rotate_left
  · intro w1 hSw; (try dsimp only at hSw); go_simp <;> with_reducible rfl
  try simp only [Act.put, iA, iB, iC]
  refine wpAnyH_take (i := 5) (oi := ⟨some 15, _, _, _, _, _⟩) (v := ?_) rfl (by kernel_rfl) (by kernel_rfl) (by kernel_rfl) (fun _ _ _ h => h) (Or.inl ⟨by kernel_rfl, ?_⟩) hHeld ?_
  rotate_left
  · intro w1 hSw; (try dsimp only at hSw); go_simp <;> with_reducible rfl
  try simp only [Act.put, iA, iB, iC]
  refine wpAnyH_take (i := 6) (oi := ⟨some 16, _, _, _, _, _⟩) (v := ?_) rfl (by kernel_rfl) (by kernel_rfl) (by kernel_rfl) (fun _ _ _ h => h) (Or.inl ⟨by kernel_rfl, ?_⟩) hHeld ?_
  rotate_left
  · intro w1 hSw; (try dsimp only at hSw); go_simp <;> with_reducible rfl
  try simp only [Act.put, iA, iB, iC]
  refine wpAnyH_take (i := 7) (oi := ⟨some 17, _, _, _, _, _⟩) (v := ?_) rfl (by kernel_rfl) (by kernel_rfl) (by kernel_rfl) (fun _ _ _ h => h) (Or.inl ⟨by kernel_rfl, ?_⟩) hHeld ?_
  rotate_left
  · intro w1 hSw; (try dsimp only at hSw); go_simp <;> with_reducible rfl
  try simp only [Act.put, iA, iB, iC]
  refine wpAnyH_take (i := 8) (oi := ⟨some 18, _, _, _, _, _⟩) (v := ?_) rfl (by kernel_rfl) (by kernel_rfl) (by kernel_rfl) (fun _ _ _ h => h) (Or.inl ⟨by kernel_rfl, ?_⟩) hHeld ?_
  rotate_left
  · intro w1 hSw; (try dsimp only at hSw); go_simp <;> with_reducible rfl
  try simp only [Act.put, iA, iB, iC]
  refine wpAnyH_take (i := 10) (oi := ⟨some 20, _, _, _, _, _⟩) (v := ?_) rfl (by kernel_rfl) (by kernel_rfl) (by kernel_rfl) (fun _ _ _ h => h) (Or.inl ⟨by kernel_rfl, ?_⟩) hHeld ?_
  rotate_left
  · intro w1 hSw; (try dsimp only at hSw); go_simp <;> with_reducible rfl
  try simp only [Act.put, iA, iB, iC]
  refine wpAnyH_take (i := 11) (oi := ⟨some 21, _, _, _, _, _⟩) (v := ?_) rfl (by kernel_rfl) (by kernel_rfl) (by kernel_rfl) (fun _ _ _ h => h) (Or.inl ⟨by kernel_rfl, ?_⟩) hHeld ?_
  rotate_left
  · intro w1 hSw; (try dsimp only at hSw); go_simp <;> with_reducible rfl
  try simp only [Act.put, iA, iB, iC]
  refine wpAnyH_take (i := 12) (oi := ⟨some 22, _, _, _, _, _⟩) (v := ?_) rfl (by kernel_rfl) (by kernel_rfl) (by kernel_rfl) (fun _ _ _ h => h) (Or.inl ⟨by kernel_rfl, ?_⟩) hHeld ?_
  rotate_left
  · intro w1 hSw; (try dsimp only at hSw); go_simp <;> with_reducible rfl
  try simp only [Act.put, iA, iB, iC]
  refine wpAnyH_take (i := 13) (oi := ⟨some 23, _, _, _, _, _⟩) (v := ?_) rfl (by kernel_rfl) (by kernel_rfl) (by kernel_rfl) (fun _ _ _ h => h) (Or.inl ⟨by kernel_rfl, ?_⟩) hHeld ?_
  rotate_left
  · intro w1 hSw; (try dsimp only at hSw); go_simp <;> with_reducible rfl
  try simp only [Act.put, iA, iB, iC]
  refine wpAnyH_take (i := 14) (oi := ⟨some 24, _, _, _, _, _⟩) (v := ?_) rfl (by kernel_rfl) (by kernel_rfl) (by kernel_rfl) (fun _ _ _ h => h) (Or.inl ⟨by kernel_rfl, ?_⟩) hHeld ?_
  rotate_left
  · intro w1 hSw; (try dsimp only at hSw); go_simp <;> with_reducible rfl
  try simp only [Act.put, iA, iB, iC]
  refine wpAnyH_take (i := 15) (oi := ⟨some 25, _, _, _, _, _⟩) (v := ?_) rfl (by kernel_rfl) (by kernel_rfl) (by kernel_rfl) (fun _ _ _ h => h) (Or.inl ⟨by kernel_rfl, ?_⟩) hHeld ?_
  rotate_left
  · intro w1 hSw; (try dsimp only at hSw); go_simp <;> with_reducible rfl
  try simp only [Act.put, iA, iB, iC]
  refine wpAnyH_take (i := 19) (oi := ⟨some 29, _, _, _, _, _⟩) (v := ?_) rfl (by kernel_rfl) (by kernel_rfl) (by kernel_rfl) (fun _ _ _ h => h) (Or.inl ⟨by kernel_rfl, ?_⟩) hHeld ?_
  rotate_left
  · intro w1 hSw; (try dsimp only at hSw); go_simp <;> with_reducible rfl
  try simp only [Act.put, iA, iB, iC]
  refine wpAnyH_take (i := 20) (oi := ⟨some 30, _, _, _, _, _⟩) (v := ?_) rfl (by kernel_rfl) (by kernel_rfl) (by kernel_rfl) (fun _ _ _ h => h) (Or.inl ⟨by kernel_rfl, ?_⟩) hHeld ?_
  rotate_left
  · intro w1 hSw; (try dsimp only at hSw); go_simp <;> with_reducible rfl
  try simp only [Act.put, iA, iB, iC]
  refine wpAnyH_take (i := 21) (oi := ⟨some 31, _, _, _, _, _⟩) (v := ?_) rfl (by kernel_rfl) (by kernel_rfl) (by kernel_rfl) (fun _ _ _ h => h) (Or.inl ⟨by kernel_rfl, ?_⟩) hHeld ?_
  rotate_left
  · intro w1 hSw; (try dsimp only at hSw); go_simp <;> with_reducible rfl
  try simp only [Act.put, iA, iB, iC]
  refine wpAnyH_take (i := 22) (oi := ⟨some 32, _, _, _, _, _⟩) (v := ?_) rfl (by kernel_rfl) (by kernel_rfl) (by kernel_rfl) (fun _ _ _ h => h) (Or.inl ⟨by kernel_rfl, ?_⟩) hHeld ?_
  rotate_left
  · intro w1 hSw; (try dsimp only at hSw); go_simp <;> with_reducible rfl
  try simp only [Act.put, iA, iB, iC]
  refine wpAnyH_take (i := 23) (oi := ⟨some 33, _, _, _, _, _⟩) (v := ?_) rfl (by kernel_rfl) (by kernel_rfl) (by kernel_rfl) (fun _ _ _ h => h) (Or.inl ⟨by kernel_rfl, ?_⟩) hHeld ?_
  rotate_left
  · intro w1 hSw; (try dsimp only at hSw); go_simp <;> with_reducible rfl
  try simp only [Act.put, iA, iB, iC]
  refine wpAnyH_take (i := 24) (oi := ⟨some 34, _, _, _, _, _⟩) (v := ?_) rfl (by kernel_rfl) (by kernel_rfl) (by kernel_rfl) (fun _ _ _ h => h) (Or.inl ⟨by kernel_rfl, ?_⟩) hHeld ?_
  rotate_left
  · intro w1 hSw; (try dsimp only at hSw); go_simp <;> with_reducible rfl
  try simp only [Act.put, iA, iB, iC]
  refine wpAnyH_take (i := 25) (oi := ⟨some 35, _, _, _, _, _⟩) (v := ?_) rfl (by kernel_rfl) (by kernel_rfl) (by kernel_rfl) (fun _ _ _ h => h) (Or.inl ⟨by kernel_rfl, ?_⟩) hHeld ?_
  rotate_left
  · intro w1 hSw; (try dsimp only at hSw); go_simp <;> with_reducible rfl
  try simp only [Act.put, iA, iB, iC]
  refine wpAnyH_take (i := 26) (oi := ⟨some 36, _, _, _, _, _⟩) (v := ?_) rfl (by kernel_rfl) (by kernel_rfl) (by kernel_rfl) (fun _ _ _ h => h) (Or.inl ⟨by kernel_rfl, ?_⟩) hHeld ?_
  rotate_left
  · intro w1 hSw; (try dsimp only at hSw); go_simp <;> with_reducible rfl
  try simp only [Act.put, iA, iB, iC]
  refine wpAnyH_take (i := 28) (oi := ⟨some 38, _, _, _, _, _⟩) (v := ?_) rfl (by kernel_rfl) (by kernel_rfl) (by kernel_rfl) (fun _ _ _ h => h) (Or.inl ⟨by kernel_rfl, ?_⟩) hHeld ?_
  rotate_left
  · intro w1 hSw; (try dsimp only at hSw); go_simp <;> with_reducible rfl
  try simp only [Act.put, iA, iB, iC]
  refine wpAnyH_take (i := 29) (oi := ⟨some 39, _, _, _, _, _⟩) (v := ?_) rfl (by kernel_rfl) (by kernel_rfl) (by kernel_rfl) (fun _ _ _ h => h) (Or.inl ⟨by kernel_rfl, ?_⟩) hHeld ?_
  rotate_left
  · intro w1 hSw; (try dsimp only at hSw); go_simp <;> with_reducible rfl
  try simp only [Act.put, iA, iB, iC]
  refine wpAnyH_take (i := 30) (oi := ⟨some 40, _, _, _, _, _⟩) (v := ?_) rfl (by kernel_rfl) (by kernel_rfl) (by kernel_rfl) (fun _ _ _ h => h) (Or.inl ⟨by kernel_rfl, ?_⟩) hHeld ?_
  rotate_left
  · intro w1 hSw; (try dsimp only at hSw); go_simp <;> with_reducible rfl
  try simp only [Act.put, iA, iB, iC]
  refine wpAnyH_take (i := 31) (oi := ⟨some 41, _, _, _, _, _⟩) (v := ?_) rfl (by kernel_rfl) (by kernel_rfl) (by kernel_rfl) (fun _ _ _ h => h) (Or.inl ⟨by kernel_rfl, ?_⟩) hHeld ?_
  rotate_left
  · intro w1 hSw; (try dsimp only at hSw); go_simp <;> with_reducible rfl
  try simp only [Act.put, iA, iB, iC]
  refine wpAnyH_take (i := 32) (oi := ⟨some 42, _, _, _, _, _⟩) (v := ?_) rfl (by kernel_rfl) (by kernel_rfl) (by kernel_rfl) (fun _ _ _ h => h) (Or.inl ⟨by kernel_rfl, ?_⟩) hHeld ?_
  rotate_left
  · intro w1 hSw; (try dsimp only at hSw); go_simp <;> with_reducible rfl
  try simp only [Act.put, iA, iB, iC]
  refine wpAnyH_take (i := 33) (oi := ⟨some 43, _, _, _, _, _⟩) (v := ?_) rfl (by kernel_rfl) (by kernel_rfl) (by kernel_rfl) (fun _ _ _ h => h) (Or.inl ⟨by kernel_rfl, ?_⟩) hHeld ?_
  rotate_left
  · intro w1 hSw; (try dsimp only at hSw); go_simp <;> with_reducible rfl
  try simp only [Act.put, iA, iB, iC]
  refine wpAnyH_take (i := 34) (oi := ⟨some 44, _, _, _, _, _⟩) (v := ?_) rfl (by kernel_rfl) (by kernel_rfl) (by kernel_rfl) (fun _ _ _ h => h) (Or.inl ⟨by kernel_rfl, ?_⟩) hHeld ?_
  rotate_left
  · intro w1 hSw; (try dsimp only at hSw); go_simp <;> with_reducible rfl
  try simp only [Act.put, iA, iB, iC]
  refine wpAnyH_take (i := 35) (oi := ⟨some 45, _, _, _, _, _⟩) (v := ?_) rfl (by kernel_rfl) (by kernel_rfl) (by kernel_rfl) (fun _ _ _ h => h) (Or.inl ⟨by kernel_rfl, ?_⟩) hHeld ?_
  rotate_left
  · intro w1 hSw; (try dsimp only at hSw); go_simp <;> with_reducible rfl
  try simp only [Act.put, iA, iB, iC]
  refine wpAnyH_ready (rs := [1]) (by kernel_rfl) (by simp) ?_
  refine AllReadyH.cons rfl (fun K hK => ?_) AllReadyH.nil
  go_simp
  go_at_call 16
  refine (checkRecording_any _ _ _ _ _ _ _ _ xs ms _ (HA1.out _ (GB.out.trans (hHeld.2.2.2.2.2.2.2.2.mono GB.out.size))) (HB1.out _ (GB.out.trans (hHeld.2.2.2.2.2.2.2.2.mono GB.out.size))) rfl rfl (by omega)).mono ?_
  rintro e w1 ⟨rfl, hb1⟩
  rw [← HR1I.out]
  try go_simp
  refine hK.out _ _ ?_ (fun hHeld => ?_)
  · exact ⟨keepC hHeld.1 hb1, keepC hHeld.2.1 hb1, keepC hHeld.2.2.1 hb1, keepC hHeld.2.2.2.1 hb1, keepC hHeld.2.2.2.2.1 hb1, keepC hHeld.2.2.2.2.2.1 hb1, keepC hHeld.2.2.2.2.2.2.1 hb1, keepC hHeld.2.2.2.2.2.2.2.1 hb1, hHeld.2.2.2.2.2.2.2.2.trans ((hb1).mono hHeld.2.2.2.2.2.2.2.2.size)⟩
  clear hK K
  try simp only [Act.put, iA, iB, iC]
  refine wpAnyH_ready (rs := [3]) (by kernel_rfl) (by simp) ?_
  refine AllReadyH.cons rfl (fun K hK => ?_) AllReadyH.nil
  go_simp
  go_at_call 16
  refine (checkRecording_any _ _ _ _ _ _ _ _ ys ns _ (HA2.out _ (GB.out.trans (hHeld.2.2.2.2.2.2.2.2.mono GB.out.size))) (HB2.out _ (GB.out.trans (hHeld.2.2.2.2.2.2.2.2.mono GB.out.size))) rfl rfl (by omega)).mono ?_
  rintro e w1 ⟨rfl, hb1⟩
  rw [← HR2I.out]
  try go_simp
  refine hK.out _ _ ?_ (fun hHeld => ?_)
  · exact ⟨keepC hHeld.1 hb1, keepC hHeld.2.1 hb1, keepC hHeld.2.2.1 hb1, keepC hHeld.2.2.2.1 hb1, keepC hHeld.2.2.2.2.1 hb1, keepC hHeld.2.2.2.2.2.1 hb1, keepC hHeld.2.2.2.2.2.2.1 hb1, keepC hHeld.2.2.2.2.2.2.2.1 hb1, hHeld.2.2.2.2.2.2.2.2.trans ((hb1).mono hHeld.2.2.2.2.2.2.2.2.size)⟩
  clear hK K
  try simp only [Act.put, iA, iB, iC]
  refine wpAnyH_ready (rs := [9]) (by kernel_rfl) (by simp) ?_
  refine AllReadyH.cons rfl (fun K hK => ?_) AllReadyH.nil
  go_simp
  go_at_call 56
  refine (failed_any _ _ _).mono ?_
  rintro e w1 ⟨rfl, rfl⟩
  try go_simp
  refine hK.out _ _ ?_ (fun hHeld => ?_)
  · exact hHeld
  clear hK K
  try simp only [Act.put, iA, iB, iC]
  refine wpAnyH_ready (rs := [16]) (by kernel_rfl) (by simp) ?_
  refine AllReadyH.cons rfl (fun K hK => ?_) AllReadyH.nil
  go_simp
  go_at_call 57
  refine (tick_any _ _ _ _ _ _ _ _ _ _).mono ?_
  rintro e w1 ⟨rfl, hb1⟩
  rw [← HTI.out]
  try go_simp
  refine hK.out _ _ ?_ (fun hHeld => ?_)
  · exact ⟨keepC hHeld.1 hb1, keepC hHeld.2.1 hb1, keepC hHeld.2.2.1 hb1, keepC hHeld.2.2.2.1 hb1, keepC hHeld.2.2.2.2.1 hb1, keepC hHeld.2.2.2.2.2.1 hb1, keepC hHeld.2.2.2.2.2.2.1 hb1, keepC hHeld.2.2.2.2.2.2.2.1 hb1, hHeld.2.2.2.2.2.2.2.2.trans ((hb1).mono hHeld.2.2.2.2.2.2.2.2.size)⟩
  clear hK K
  try simp only [Act.put, iA, iB, iC]
  refine wpAnyH_take (i := 17) (oi := ⟨some 27, _, _, _, _, _⟩) (v := ?_) rfl (by kernel_rfl) (by kernel_rfl) (by kernel_rfl) (fun _ _ _ h => h) (Or.inl ⟨by kernel_rfl, ?_⟩) hHeld ?_
  rotate_left
  · intro w1 hSw; (try dsimp only at hSw); go_simp <;> with_reducible rfl
  try simp only [Act.put, iA, iB, iC]
  refine wpAnyH_ready (rs := [18]) (by kernel_rfl) (by simp) ?_
  refine AllReadyH.cons rfl (fun K hK => ?_) AllReadyH.nil
  go_simp
  go_at_call 56
  refine (failed_any _ _ _).mono ?_
  rintro e w1 ⟨rfl, rfl⟩
  try go_simp
  refine hK.out _ _ ?_ (fun hHeld => ?_)
  · exact hHeld
  clear hK K
  try simp only [Act.put, iA, iB, iC]
  refine wpAnyH_ready (rs := [27]) (by kernel_rfl) (by simp) ?_
  refine AllReadyH.cons rfl (fun K hK => ?_) AllReadyH.nil
  go_simp
  go_at_call 56
  refine (failed_any _ _ _).mono ?_
  rintro e w1 ⟨rfl, rfl⟩
  try go_simp
  refine hK.out _ _ ?_ (fun hHeld => ?_)
  · exact hHeld
  clear hK K
  try simp only [Act.put, iA, iB, iC]
  refine wpAnyH_ready (rs := [36]) (by kernel_rfl) (by simp) ?_
  refine AllReadyH.cons rfl (fun K hK => ?_) AllReadyH.nil
  go_simp
  go_at_call 56
  refine (failed_any _ _ _).mono ?_
  rintro e w1 ⟨rfl, rfl⟩
  try go_simp
  refine hK.out _ _ ?_ (fun hHeld => ?_)
  · exact hHeld
  clear hK K
  try simp only [Act.put, iA, iB, iC]
  refine wpAnyH_ready (rs := [37]) (by kernel_rfl) (by simp) ?_
  refine AllReadyH.cons rfl (fun K hK => ?_) AllReadyH.nil
  go_simp
  refine hK.out _ _ ?_ (fun hHeld => ?_)
  · exact ⟨keepC hHeld.1 ((Below.refl _ _).alloc (Nat.le_refl _) _), keepC hHeld.2.1 ((Below.refl _ _).alloc (Nat.le_refl _) _), keepC hHeld.2.2.1 ((Below.refl _ _).alloc (Nat.le_refl _) _), keepC hHeld.2.2.2.1 ((Below.refl _ _).alloc (Nat.le_refl _) _), keepC hHeld.2.2.2.2.1 ((Below.refl _ _).alloc (Nat.le_refl _) _), keepC hHeld.2.2.2.2.2.1 ((Below.refl _ _).alloc (Nat.le_refl _) _), keepC hHeld.2.2.2.2.2.2.1 ((Below.refl _ _).alloc (Nat.le_refl _) _), keepC hHeld.2.2.2.2.2.2.2.1 ((Below.refl _ _).alloc (Nat.le_refl _) _), hHeld.2.2.2.2.2.2.2.2.trans ((((Below.refl _ _).alloc (Nat.le_refl _) _)).mono hHeld.2.2.2.2.2.2.2.2.size)⟩
  clear hK K
  try simp only [Act.put, iA, iB, iC]
  refine wpAnyH_ready (rs := [38]) (by kernel_rfl) (by simp) ?_
  refine AllReadyH.cons rfl (fun K hK => ?_) AllReadyH.nil
  go_simp
  go_at_call 55
  refine (firstV_any _ _ _ [r1, r2, whenI (sp != sp2) 2, whenI (st2 != ti) 11, whenI (decide ((4096 : Int) < (xs.length : Int) + (ys.length : Int))) 5, whenI (decide ((16 : Int) < (ms.length : Int) + (ns.length : Int))) 5] _ ?_ rfl (by simp)).mono ?_
  · exact Rd.new _ _ _ _ (by simp)
  rintro e w1 ⟨rfl, rfl⟩
  rw [← HEE.out]
  try go_simp
  refine hK.out _ _ ?_ (fun hHeld => ?_)
  · exact hHeld
  clear hK K
  try simp only [Act.put, iA, iB, iC]
  refine wpAnyH_take (i := 39) (oi := ⟨some 6, _, _, _, _, _⟩) (v := ?_) rfl (by kernel_rfl) (by kernel_rfl) (by kernel_rfl) (fun _ _ _ h => h) (Or.inl ⟨by kernel_rfl, ?_⟩) hHeld ?_
  rotate_left
  · intro w1 hSw; (try dsimp only at hSw); go_simp <;> with_reducible rfl
  try simp only [Act.put, iA, iB, iC]
  refine wpAnyH_done (by kernel_rfl) ?_ _
  have I2 := Lib.hid (G2.out.old hHeld.2.2.2.2.2.2.2.2)
  have IB := Lib.hid (GB.out.trans (hHeld.2.2.2.2.2.2.2.2.mono GB.out.size))
  clear hHeld G0 G1 G2 GB
  go_wp2_with (refine wpList_store_row rfl 32 _ _ rfl (w.heap.size + 1 + 1) zero4.toArray rfl rfl 32 _ I2.out ?_ ?_ ?_ ?_; (kernel_rfl); (rfl); (simp [zero4, Value.oneCell']))
  refine bodyPost_ret (results_row_tmp rfl _ _ (w.heap.size + 1 + 1) 32 zero4.toArray (0, 0) _ rfl (I2.out.setRow zero4) Tryz.underlying32 rfl (by kernel_rfl)) rfl ⟨?_, Below.setRow IB.out (by omega) _⟩
  rfl
end Go.Proofs.YtphgfiihccofnaaGreatDoor
