import Derived.Test.YtphgfiihccofnaaGreatDoorM31
import Derived.Test.YtphgfiihccofnaaGreatDoorM23
import Derived.Test.YtphgfiihccofnaaGreatDoorM21
/- Contracts: a part of a recording by the reference. -/
namespace Go.Proofs.YtphgfiihccofnaaGreatDoor
set_option linter.all false
open Go.RowKit Go.Fl
set_option linter.unusedVariables false
set_option linter.unusedSimpArgs false

/-- the arguments and the result where they lie -/
def CtS (w : World) (L0 : List Value) (f t : Nat) (V : World) : Prop := Row V w.heap.size 25 L0 ∧ Row V (w.heap.size + 1) 27 [.int .i64 f, .int .i64 t] ∧ Row V (w.heap.size + 1 + 1) 25 zero4 ∧ Below w.heap.size w V
theorem cell_grown {w w' : World} {own : Option Nat} {g i : Nat} {v : Value} (h : w.cell? ⟨g, i, none⟩ = some v) (hg : w.grownBy w' own) (hne : some g ≠ own) : w'.cell? ⟨g, i, none⟩ = some v :=
  (World.cell?_of_block (hg.block g (World.block_lt_of_cell? _ _ h) hne)).trans h
theorem cell_setfar {w : World} {g i : Nat} {p : Addr} (v : Value) (h : g ≠ p.block) : (w.setCell p v).cell? ⟨g, i, none⟩ = w.cell? ⟨g, i, none⟩ := World.cell?_of_block (heap_setCell_other w p g v h)
theorem own_nb {w : World} {B g : Nat} {e : TypeId} {s n : Nat} {v : Value} {xs : List Value} (h : w.ownsRow B e s v n xs) (hg : g < B) : some g ≠ v.ownBlock := fun hh => by have := (h.lt g hh.symm).1; omega
theorem flts_app1 (l : List Nat) (x : Nat) : flts (l ++ [x]) = flts l ++ [.float .f32 x] := by simp [flts]
theorem take_next {xs : List Nat} {f i : Nat} (hf : f ≤ i) (hi : i < xs.length) : (xs.drop f).take (i - f + 1) = (xs.drop f).take (i - f) ++ [xs[i]] := by
  rw [List.take_succ_eq_append_getElem (by rw [List.length_drop]; omega), List.getElem_drop]
  congr 2
  congr 1
  omega
theorem cutM_next {f t : Nat} {ms : List (Int × ByteArray)} {k : Nat} (hk : k < ms.length) : cutM f t (ms.take (k + 1)) = cutM f t (ms.take k) ++ (if inSpan f t ms[k] then [shiftM (-(f : Int)) ms[k]] else []) := by
  unfold cutM; rw [filter_succ _ _ _ hk, List.map_append]
  congr 1
  split <;> rfl

set_option maxRecDepth 100000 in
set_option maxHeartbeats 4000000 in
theorem cutR_far (st sp : Int) (A B : Option Addr) (n c m d : Nat) (xs : List Nat) (ms : List (Int × ByteArray)) (f t : Nat) (w : World) (hA : Rd w A (flts xs)) (hB : Rd w B (markC ms)) (hn : n = xs.length) (hm : m = ms.length) (hx : xs.length ≤ 1000000) (hms : ms.length ≤ 1000000) (hft : f ≤ t) (ht : t ≤ xs.length) (htk : 100000000 < tickI st sp f) :
    Calls Tryz.prog 15 #[.agg #[.int .i64 st, .int .i64 sp, .slice A n c, .slice B m d], .agg #[.int .i64 f, .int .i64 t]] w
      fun e w' => e = .returned (.tuple #[.agg #[.int .i64 0, .int .i64 0, .slice none 0 0, .slice none 0 0], .int .i64 3]) ∧ Below w.heap.size w w' := by
  subst hn; subst hm
  have HA := Lib.hid hA; have HB := Lib.hid hB
  clear hA hB
  obtain ⟨ti, hti⟩ : ∃ ti, ti = tickI st sp f := ⟨_, rfl⟩
  have eT : wrap64 (st + wrap64 (sp * (f : Int))) = ti := by rw [hti, tickI, Int.mul_comm]
  rw [← hti] at htk
  try rw [← hti]
  obtain ⟨L0, hL0⟩ : ∃ L0 : List Value, L0 = [.int .i64 st, .int .i64 sp, .slice A xs.length c, .slice B ms.length d] := ⟨_, rfl⟩
  have R0 := Row.new w 25 [.int .i64 st, .int .i64 sp, .slice A xs.length c, .slice B ms.length d]
  have R1 := Row.new (w.alloc (.cells #[.int .i64 st, .int .i64 sp, .slice A xs.length c, .slice B ms.length d] 25)) 27 [.int .i64 f, .int .i64 t]
  have R2 := Row.new ((w.alloc (.cells #[.int .i64 st, .int .i64 sp, .slice A xs.length c, .slice B ms.length d] 25)).alloc (.cells #[.int .i64 f, .int .i64 t] 27)) 25 zero4
  rw [World.size_alloc] at R1
  rw [World.size_alloc, World.size_alloc] at R2
  have R0' := (R0.alloc (.cells #[.int .i64 f, .int .i64 t] 27)).alloc (.cells zero4.toArray 25)
  have R1' := R1.alloc (.cells zero4.toArray 25)
  have RB := (((Below.refl w.heap.size w).alloc (Nat.le_refl _) (.cells #[.int .i64 st, .int .i64 sp, .slice A xs.length c, .slice B ms.length d] 25)).alloc (by simp) (.cells #[.int .i64 f, .int .i64 t] 27)).alloc (by simp; omega) (.cells zero4.toArray 25)
  have HR0 := Lib.hid R0'; have HR1 := Lib.hid R1'; have HR2 := Lib.hid R2; have HRB := Lib.hid RB
  clear R0 R1 R2 R0' R1' RB hti
  have HL0 := Lib.hid hL0
  clear hL0
  go_enter Tryz.func15, Tryz.ntmps15
  go_upto_region 1 with fail
  refine genD (w0 := w) w.heap.size (w.heap.size + 1) (w.heap.size + 1 + 1) _ _ _ _ _ _ HR0.out HR1.out HR2.out HRB.out ?_
  clear HR0 HR1 HR2 HRB
  intro W R0 R1 R2 RB
  have q0 := R0.cell 0; have q1 := R0.cell 1; have q2 := R0.cell 2; have q3 := R0.cell 3
  have p0 := R1.cell 0; have p1 := R1.cell 1
  simp only [List.getElem?_cons_succ, List.getElem?_cons_zero] at q0 q1 q2 q3 p0 p1
  have G0 := Lib.hid R0; have G1 := Lib.hid R1; have G2 := Lib.hid R2; have GB := Lib.hid RB
  have Z := Lib.hid R2.lt
  clear R0 R1 R2 RB
  go_upto_region 2 with (refine wpList_store_row rfl 25 _ _ rfl W.heap.size #[.int .i64 ti, .int .i64 sp, .slice none 0 0, .slice none 0 0] rfl rfl 25 _ (Row.new W 25 zero4) ?_ ?_ ?_ ?_; (kernel_rfl); (rfl); (simp [Value.oneCell']))
  clear q0 q1 q2 q3 p0 p1
  have b0 : Below W.heap.size W ((W.alloc (.cells zero4.toArray 25)).setRow W.heap.size #[.int .i64 ti, .int .i64 sp, .slice none 0 0, .slice none 0 0]) := Below.setRow ((Below.refl _ _).alloc (Nat.le_refl _) _) (Nat.le_refl _) _
  have r6 : Row ((W.alloc (.cells zero4.toArray 25)).setRow W.heap.size #[.int .i64 ti, .int .i64 sp, .slice none 0 0, .slice none 0 0]) W.heap.size 25 [.int .i64 ti, .int .i64 sp, .slice none 0 0, .slice none 0 0] := (Row.new W 25 zero4).setRow [.int .i64 ti, .int .i64 sp, .slice none 0 0, .slice none 0 0]
  refine genR (fun V => CtS w L0 f t V ∧ Row V W.heap.size 25 [.int .i64 ti, .int .i64 sp, .slice none 0 0, .slice none 0 0]) ⟨⟨by rw [HL0.out]; exact G0.out.old b0, G1.out.old b0, G2.out.old b0, GB.out.trans (b0.mono GB.out.size)⟩, r6⟩ ?_
  have HG6 : Hid (w.heap.size + 2 < W.heap.size) := by unfold Hid; have := Z.out; omega
  generalize W.heap.size = g6 at *
  clear b0 r6 G0 G1 G2 GB Z
  rintro W1 ⟨s1, r6⟩
  have HS1 := Lib.hid s1; have HR6 := Lib.hid r6
  have q6 := r6.cell 0
  simp only [List.getElem?_cons_succ, List.getElem?_cons_zero] at q6
  clear s1 r6
  go_wp2_with (refine wpList_store_row rfl 25 _ _ rfl (w.heap.size + 1 + 1) zero4.toArray rfl rfl 25 _ HS1.out.2.2.1 ?_ ?_ ?_ ?_; (kernel_rfl); (rfl); (simp [zero4, Value.oneCell']))
  refine bodyPost_ret (results_row_tmp rfl _ _ (w.heap.size + 1 + 1) 25 zero4.toArray (0, 0) _ rfl (HS1.out.2.2.1.setRow zero4) Tryz.underlying25 rfl (by kernel_rfl)) rfl ⟨?_, Below.setRow HS1.out.2.2.2 (by omega) _⟩
  rfl

set_option maxRecDepth 100000 in
set_option maxHeartbeats 6000000 in
theorem cutR_ok (st sp : Int) (A B : Option Addr) (n c m d : Nat) (xs : List Nat) (ms : List (Int × ByteArray)) (f t : Nat) (w : World) (hA : Rd w A (flts xs)) (hB : Rd w B (markC ms)) (hn : n = xs.length) (hm : m = ms.length) (hx : xs.length ≤ 1000000) (hms : ms.length ≤ 1000000) (hft : f ≤ t) (ht : t ≤ xs.length) (htk : tickI st sp f ≤ 100000000) :
    Calls Tryz.prog 15 #[.agg #[.int .i64 st, .int .i64 sp, .slice A n c, .slice B m d], .agg #[.int .i64 f, .int .i64 t]] w
      fun e w' => ∃ v u, e = .returned (.tuple #[.agg #[.int .i64 (tickI st sp f), .int .i64 sp, v, u], .int .i64 0]) ∧ w'.ownsRow w.heap.size 90 1 v (t - f) (flts ((xs.drop f).take (t - f))) ∧ w'.ownsRow w.heap.size 83 2 u (cutM f t ms).length (markC (cutM f t ms)) ∧ Below w.heap.size w w' := by
  subst hn; subst hm
  have HA := Lib.hid hA; have HB := Lib.hid hB
  clear hA hB
  obtain ⟨ti, hti⟩ : ∃ ti, ti = tickI st sp f := ⟨_, rfl⟩
  have eT : wrap64 (st + wrap64 (sp * (f : Int))) = ti := by rw [hti, tickI, Int.mul_comm]
  rw [← hti] at htk
  try rw [← hti]
  obtain ⟨L0, hL0⟩ : ∃ L0 : List Value, L0 = [.int .i64 st, .int .i64 sp, .slice A xs.length c, .slice B ms.length d] := ⟨_, rfl⟩
  have R0 := Row.new w 25 [.int .i64 st, .int .i64 sp, .slice A xs.length c, .slice B ms.length d]
  have R1 := Row.new (w.alloc (.cells #[.int .i64 st, .int .i64 sp, .slice A xs.length c, .slice B ms.length d] 25)) 27 [.int .i64 f, .int .i64 t]
  have R2 := Row.new ((w.alloc (.cells #[.int .i64 st, .int .i64 sp, .slice A xs.length c, .slice B ms.length d] 25)).alloc (.cells #[.int .i64 f, .int .i64 t] 27)) 25 zero4
  rw [World.size_alloc] at R1
  rw [World.size_alloc, World.size_alloc] at R2
  have R0' := (R0.alloc (.cells #[.int .i64 f, .int .i64 t] 27)).alloc (.cells zero4.toArray 25)
  have R1' := R1.alloc (.cells zero4.toArray 25)
  have RB := (((Below.refl w.heap.size w).alloc (Nat.le_refl _) (.cells #[.int .i64 st, .int .i64 sp, .slice A xs.length c, .slice B ms.length d] 25)).alloc (by simp) (.cells #[.int .i64 f, .int .i64 t] 27)).alloc (by simp; omega) (.cells zero4.toArray 25)
  have HR0 := Lib.hid R0'; have HR1 := Lib.hid R1'; have HR2 := Lib.hid R2; have HRB := Lib.hid RB
  clear R0 R1 R2 R0' R1' RB hti
  have HL0 := Lib.hid hL0
  clear hL0
  go_enter Tryz.func15, Tryz.ntmps15
  go_upto_region 1 with fail
  refine genD (w0 := w) w.heap.size (w.heap.size + 1) (w.heap.size + 1 + 1) _ _ _ _ _ _ HR0.out HR1.out HR2.out HRB.out ?_
  clear HR0 HR1 HR2 HRB
  intro W R0 R1 R2 RB
  have q0 := R0.cell 0; have q1 := R0.cell 1; have q2 := R0.cell 2; have q3 := R0.cell 3
  have p0 := R1.cell 0; have p1 := R1.cell 1
  simp only [List.getElem?_cons_succ, List.getElem?_cons_zero] at q0 q1 q2 q3 p0 p1
  have G0 := Lib.hid R0; have G1 := Lib.hid R1; have G2 := Lib.hid R2; have GB := Lib.hid RB
  have Z := Lib.hid R2.lt
  clear R0 R1 R2 RB
  go_upto_region 2 with (refine wpList_store_row rfl 25 _ _ rfl W.heap.size #[.int .i64 ti, .int .i64 sp, .slice none 0 0, .slice none 0 0] rfl rfl 25 _ (Row.new W 25 zero4) ?_ ?_ ?_ ?_; (kernel_rfl); (rfl); (simp [Value.oneCell']))
  clear q0 q1 q2 q3 p0 p1
  have b0 : Below W.heap.size W ((W.alloc (.cells zero4.toArray 25)).setRow W.heap.size #[.int .i64 ti, .int .i64 sp, .slice none 0 0, .slice none 0 0]) := Below.setRow ((Below.refl _ _).alloc (Nat.le_refl _) _) (Nat.le_refl _) _
  have r6 : Row ((W.alloc (.cells zero4.toArray 25)).setRow W.heap.size #[.int .i64 ti, .int .i64 sp, .slice none 0 0, .slice none 0 0]) W.heap.size 25 [.int .i64 ti, .int .i64 sp, .slice none 0 0, .slice none 0 0] := (Row.new W 25 zero4).setRow [.int .i64 ti, .int .i64 sp, .slice none 0 0, .slice none 0 0]
  refine genR (fun V => CtS w L0 f t V ∧ Row V W.heap.size 25 [.int .i64 ti, .int .i64 sp, .slice none 0 0, .slice none 0 0]) ⟨⟨by rw [HL0.out]; exact G0.out.old b0, G1.out.old b0, G2.out.old b0, GB.out.trans (b0.mono GB.out.size)⟩, r6⟩ ?_
  have HG6 : Hid (w.heap.size + 2 < W.heap.size) := by unfold Hid; have := Z.out; omega
  generalize W.heap.size = g6 at *
  clear b0 r6 G0 G1 G2 GB Z
  rintro W1 ⟨s1, r6⟩
  have HS1 := Lib.hid s1; have HR6 := Lib.hid r6
  have q6 := r6.cell 0
  simp only [List.getElem?_cons_succ, List.getElem?_cons_zero] at q6
  clear s1 r6
  have gt : decide (100000000 < ti) = false := decide_eq_false (by omega)
  have p0 := HS1.out.2.1.cell 0
  simp only [List.getElem?_cons_zero] at p0
  go_upto_region 5 with fail
  clear q6 gt p0
  obtain ⟨B1, hB1⟩ : ∃ B1, B1 = W1.heap.size := ⟨_, rfl⟩
  have HG1 : Hid (g6 < B1) := by unfold Hid; rw [hB1]; exact HR6.out.lt
  go_loopw [7] (fun i wr => ∃ (j : Nat) (v : Value), f ≤ j ∧ j ≤ t ∧ i = .int .i64 j ∧ Hid (wr.ownsRow B1 90 1 v (j - f) (flts ((xs.drop f).take (j - f)))) ∧ Hid (Row wr g6 25 [.int .i64 ti, .int .i64 sp, v, .slice none 0 0]) ∧ Hid (∀ j, j < B1 → j ≠ g6 → wr.heap[j]? = W1.heap[j]?) ∧ Hid (Below w.heap.size w wr) ∧ Hid (B1 ≤ wr.heap.size)) (fun i _ => t - (intOf i).toNat)
  case atStart => exact ⟨f, .slice none 0 0, Nat.le_refl _, hft, rfl, by rw [Nat.sub_self]; exact World.ownsRow_nil _ _ _ _, HR6, fun j _ _ => rfl, HS1.out.2.2.2, Nat.le_of_eq hB1⟩
  case round =>
    clear HR6 hB1
    obtain ⟨i, v, hfi, hit, rfl, HO, HR6, KK, HBW, HB1⟩ := hrel
    have K0 : Hid (Row wr w.heap.size 25 L0) := (KK.out _ (by have := HG1.out; have := HG6.out; omega) (by have := HG6.out; omega)).trans HS1.out.1
    have K1 : Hid (Row wr (w.heap.size + 1) 27 [.int .i64 f, .int .i64 t]) := (KK.out _ (by have := HG1.out; have := HG6.out; omega) (by have := HG6.out; omega)).trans HS1.out.2.1
    have K2 : Hid (Row wr (w.heap.size + 1 + 1) 25 zero4) := (KK.out _ (by have := HG1.out; have := HG6.out; omega) (by have := HG6.out; omega)).trans HS1.out.2.2.1
    have p1 := K1.out.cell 1
    simp only [List.getElem?_cons_succ, List.getElem?_cons_zero] at p1
    by_cases hlt : i < t
    · have i1 : (i : Int) < (t : Int) := by omega
      have i2 : (i : Int) < (xs.length : Int) := by omega
      obtain ⟨b, off, hAb, hbl⟩ := Rd.flt HA.out (show i < xs.length by omega)
      subst hAb
      obtain ⟨x, hx0⟩ : ∃ x, x = xs[i]'(by omega) := ⟨_, rfl⟩
      rw [← hx0] at hbl
      have HBL : Hid (b < w.heap.size) := World.block_lt_of_cell? _ _ hbl
      have QX : Hid (wr.cell? ⟨b, off + i, none⟩ = some (.float .f32 x)) := (HBW.out.cell HBL.out).trans hbl
      have HT : Hid ((xs.drop f).take (i + 1 - f) = (xs.drop f).take (i - f) ++ [x]) := by
        unfold Hid; rw [show i + 1 - f = i - f + 1 by omega, take_next hfi (by omega), hx0]
      have Q2 : Hid (wr.cell? ⟨w.heap.size, 2, none⟩ = some (.slice (some ⟨b, off, none⟩) xs.length c)) := by unfold Hid; rw [K0.out.cell, HL0.out]; rfl
      have NE0 : Hid (some w.heap.size ≠ v.ownBlock) := own_nb HO.out (by have := HG1.out; have := HG6.out; omega)
      have NEB : Hid (some b ≠ v.ownBlock) := own_nb HO.out (by have := HG1.out; have := HG6.out; have := HBL.out; omega)
      have NE6 : Hid (some g6 ≠ v.ownBlock) := own_nb HO.out HG1.out
      clear hbl hx0
      go_upto_region 7 with fail
      clear p1
      refine wp_region_held_drew (S := fun w' => w'.cell? ⟨w.heap.size, 2, none⟩ = some (.slice (some ⟨b, off, none⟩) xs.length c) ∧ w'.cell? ⟨b, off + i, none⟩ = some (.float .f32 x)) (by kernel_rfl) ?_ (fun hHeld => ?_)
      · exact ⟨Q2.out, QX.out⟩
      refine wpAnyH_take (i := 0) (oi := ⟨some 32, _, _, _, _, _⟩) (v := ?_) rfl (by kernel_rfl) (by kernel_rfl) (by kernel_rfl) (fun _ _ _ h => h) (Or.inl ⟨by kernel_rfl, ?_⟩) hHeld ?_
      rotate_left
      · intro w1 hSw; (try dsimp only at hSw); go_simp <;> with_reducible rfl
      try simp only [Act.put, List.setIfInBounds_toArray, List.set_cons_zero, List.set_cons_succ]
      refine wpAnyH_take (i := 2) (oi := ⟨some 34, _, _, _, _, _⟩) (v := ?_) rfl (by kernel_rfl) (by kernel_rfl) (by kernel_rfl) (fun _ _ _ h => h) (Or.inl ⟨by kernel_rfl, ?_⟩) hHeld ?_
      rotate_left
      · intro w1 hSw; (try dsimp only at hSw); go_simp <;> with_reducible rfl
      try simp only [Act.put, List.setIfInBounds_toArray, List.set_cons_zero, List.set_cons_succ]
      refine wpAnyH_take (i := 3) (oi := ⟨some 35, _, _, _, _, _⟩) (v := ?_) rfl (by kernel_rfl) (by kernel_rfl) (by kernel_rfl) (fun _ _ _ h => h) (Or.inl ⟨by kernel_rfl, ?_⟩) hHeld ?_
      rotate_left
      · intro w1 hSw; (try dsimp only at hSw); go_simp <;> with_reducible rfl
      try simp only [Act.put, List.setIfInBounds_toArray, List.set_cons_zero, List.set_cons_succ]
      refine wpAnyH_take (i := 4) (oi := ⟨some 36, _, _, _, _, _⟩) (v := ?_) rfl (by kernel_rfl) (by kernel_rfl) (by kernel_rfl) (fun _ _ _ h => h) (Or.inl ⟨by kernel_rfl, ?_⟩) hHeld ?_
      rotate_left
      · intro w1 hSw; (try dsimp only at hSw); go_simp <;> with_reducible rfl
      try simp only [Act.put, List.setIfInBounds_toArray, List.set_cons_zero, List.set_cons_succ]
      refine wpAnyH_take (i := 5) (oi := ⟨some 37, _, _, _, _, _⟩) (v := ?_) rfl (by kernel_rfl) (by kernel_rfl) (by kernel_rfl) (fun _ _ _ h => h) (Or.inl ⟨by kernel_rfl, ?_⟩) hHeld ?_
      rotate_left
      · intro w1 hSw; (try dsimp only at hSw); go_simp <;> with_reducible rfl
      try simp only [Act.put, List.setIfInBounds_toArray, List.set_cons_zero, List.set_cons_succ]
      refine wpAnyH_take (i := 6) (oi := ⟨some 38, _, _, _, _, _⟩) (v := ?_) rfl (by kernel_rfl) (by kernel_rfl) (by kernel_rfl) (fun _ _ _ h => h) (Or.inl ⟨by kernel_rfl, ?_⟩) hHeld ?_
      rotate_left
      · intro w1 hSw; (try dsimp only at hSw); go_simp <;> with_reducible rfl
      try simp only [Act.put, List.setIfInBounds_toArray, List.set_cons_zero, List.set_cons_succ]
      refine wpAnyH_ready (rs := [1, 7]) (by kernel_rfl) (by simp) ?_
      refine AllReadyH.cons rfl (fun K hK => ?_) (AllReadyH.cons rfl (fun K hK => ?_) (AllReadyH.nil))
      ·
        have z2 : (wr.drew).cell? ⟨g6, 2, none⟩ = some v := HR6.out.cell 2
        go_simp
        refine hK.out _ _ ?_ (fun hHeld => ?_)
        · exact hHeld
        clear hK K
        try simp only [Act.put, List.setIfInBounds_toArray, List.set_cons_zero, List.set_cons_succ]
        refine wpAnyH_ready (rs := [7]) (by kernel_rfl) (by simp) ?_
        refine AllReadyH.cons rfl (fun K hK => ?_) (AllReadyH.nil)
        go_simp
        refine hK.out _ _ ?_ (fun hHeld => ?_)
        · exact ⟨keepC hHeld.1 ((Below.refl _ _).alloc (Nat.le_refl _) _), keepC hHeld.2 ((Below.refl _ _).alloc (Nat.le_refl _) _)⟩
        clear hK K
        try simp only [Act.put, List.setIfInBounds_toArray, List.set_cons_zero, List.set_cons_succ]
        refine wpAnyH_ready (rs := [8]) (by kernel_rfl) (by simp) ?_
        refine AllReadyH.cons rfl (fun K hK => ?_) (AllReadyH.nil)
        refine step_app rfl (.tmp 33) (.tmp 39) 22 rfl B1 90 (.float .f32 0) 1 4 Tryz.underlying22 info37 rfl (by decide) v (i - f) (flts ((xs.drop f).take (i - f))) (by simp [Act.eval, Act.put]) (owns_below HO.out ((Below.refl wr.heap.size wr).drew.alloc (Nat.le_refl _) (.cells #[Value.float .f32 x] 90))) wr.heap.size 1 1 [.float .f32 x] (by simp [Act.eval, Act.put]) 90 (Row.new wr.drew 90 [.float .f32 x]) rfl (by simp [Value.oneCell']) (by unfold maxLen; omega) (by omega) (by have := HB1.out; simp; omega) ?_
        intro v5 w5 ho5 hg5
        obtain ⟨A5, c5, rfl, -⟩ := owned_slice ho5
        refine hK.out _ _ ?_ (fun hHeld => ?_)
        · exact ⟨cell_grown hHeld.1 hg5 NE0.out, cell_grown hHeld.2 hg5 NEB.out⟩
        clear hK K
        try simp only [Act.put, List.setIfInBounds_toArray, List.set_cons_zero, List.set_cons_succ]
        refine wpAnyH_take (i := 9) (oi := ⟨some 41, _, _, _, _, _⟩) (v := ?_) rfl (by kernel_rfl) (by kernel_rfl) (by kernel_rfl) (fun _ _ _ h => h) (Or.inl ⟨by kernel_rfl, ?_⟩) hHeld ?_
        rotate_left
        · intro w1 hSw; (try dsimp only at hSw); go_simp <;> with_reducible rfl
        try simp only [Act.put, List.setIfInBounds_toArray, List.set_cons_zero, List.set_cons_succ]
        refine wpAnyH_ready (rs := [10]) (by kernel_rfl) (by simp) ?_
        refine AllReadyH.cons rfl (fun K hK => ?_) (AllReadyH.nil)
        have z5 : Row w5 g6 25 [.int .i64 ti, .int .i64 sp, v, .slice none 0 0] := Row.grown (w := (wr.drew.alloc (.cells #[Value.float .f32 x] 90))) (HR6.out.old ((Below.refl wr.heap.size wr).drew.alloc (Nat.le_refl _) (.cells #[Value.float .f32 x] 90))) hg5 NE6.out
        have m3 := z5.cell 2
        have mf := z5.free 2
        simp only [List.getElem?_cons_succ, List.getElem?_cons_zero] at m3
        go_simp
        refine hK.out _ _ ?_ (fun hHeld => ?_)
        · exact ⟨(cell_setfar _ (by show _ ≠ g6; have := HG6.out; omega)).trans hHeld.1, (cell_setfar _ (by show _ ≠ g6; have := HG6.out; have := HBL.out; omega)).trans hHeld.2⟩
        clear hK K
        try simp only [Act.put, List.setIfInBounds_toArray, List.set_cons_zero, List.set_cons_succ]
        refine wpAnyH_done (by kernel_rfl) ?_ _
        have Hb5 : Hid (Below B1 wr w5) := ((Below.refl B1 wr).drew.alloc HB1.out (.cells #[Value.float .f32 x] 90)).grown hg5 (by have := HB1.out; simp; omega) (fun q hq => (HO.out.lt q hq).1)
        have HR5 : Hid (Row w5 g6 25 [.int .i64 ti, .int .i64 sp, v, .slice none 0 0]) := Row.grown (w := (wr.drew.alloc (.cells #[Value.float .f32 x] 90))) (HR6.out.old ((Below.refl wr.heap.size wr).drew.alloc (Nat.le_refl _) (.cells #[Value.float .f32 x] 90))) hg5 NE6.out
        have HO5 : Hid (w5.ownsRow B1 90 1 (.slice A5 (i - f + 1) c5) (i + 1 - f) (flts ((xs.drop f).take (i + 1 - f)))) := by
          unfold Hid; rw [HT.out, show i + 1 - f = i - f + 1 by omega, flts_app1]; exact ho5
        clear hHeld hg5 ho5 z2
        go_wp2
        go_roundw
        case rel =>
          refine ⟨i + 1, .slice A5 (i - f + 1) c5, by omega, by omega, by go_num, ?_, HR5.out.set 2 _, ?_, ?_, ?_⟩
          · exact owns_other g6 HO5.out (fun j _ hne => heap_setCell_other w5 ⟨g6, 2, none⟩ j _ hne) (fun e => by have := (HO5.out.lt _ e).1; have := HG1.out; omega)
          · exact fun j hj hne => ((heap_setCell_other w5 ⟨g6, 2, none⟩ j _ hne).trans (Hb5.out.block j hj)).trans (KK.out j hj hne)
          · exact (HBW.out.trans (Hb5.out.mono (by have := HG1.out; have := HG6.out; omega))).setCell (p := ⟨g6, 2, none⟩) (by show w.heap.size ≤ g6; have := HG6.out; omega) _
          · have h2 := ((Below.refl 0 w5).setCell (p := ⟨g6, 2, none⟩) (Nat.zero_le _) (.slice A5 (i - f + 1) c5)).size
            have h3 := Hb5.out.size
            have h4 := HB1.out
            show B1 ≤ _
            omega
        case measure => simp [intOf]; omega
      ·
        go_simp
        refine hK.out _ _ ?_ (fun hHeld => ?_)
        · exact ⟨keepC hHeld.1 ((Below.refl _ _).alloc (Nat.le_refl _) _), keepC hHeld.2 ((Below.refl _ _).alloc (Nat.le_refl _) _)⟩
        clear hK K
        try simp only [Act.put, List.setIfInBounds_toArray, List.set_cons_zero, List.set_cons_succ]
        refine wpAnyH_ready (rs := [1]) (by kernel_rfl) (by simp) ?_
        refine AllReadyH.cons rfl (fun K hK => ?_) (AllReadyH.nil)
        have z2 : (wr.alloc (.cells #[Value.float .f32 x] 90)).drew.cell? ⟨g6, 2, none⟩ = some v := keepC (W := wr) (HR6.out.cell 2) ((Below.refl _ wr).alloc (Nat.le_refl _) (.cells #[Value.float .f32 x] 90)).drew
        go_simp
        refine hK.out _ _ ?_ (fun hHeld => ?_)
        · exact hHeld
        clear hK K
        try simp only [Act.put, List.setIfInBounds_toArray, List.set_cons_zero, List.set_cons_succ]
        refine wpAnyH_ready (rs := [8]) (by kernel_rfl) (by simp) ?_
        refine AllReadyH.cons rfl (fun K hK => ?_) (AllReadyH.nil)
        refine step_app rfl (.tmp 33) (.tmp 39) 22 rfl B1 90 (.float .f32 0) 1 4 Tryz.underlying22 info37 rfl (by decide) v (i - f) (flts ((xs.drop f).take (i - f))) (by simp [Act.eval, Act.put]) (owns_below HO.out ((Below.refl wr.heap.size wr).drew.alloc (Nat.le_refl _) (.cells #[Value.float .f32 x] 90))) wr.heap.size 1 1 [.float .f32 x] (by simp [Act.eval, Act.put]) 90 (Row.new wr.drew 90 [.float .f32 x]) rfl (by simp [Value.oneCell']) (by unfold maxLen; omega) (by omega) (by have := HB1.out; simp; omega) ?_
        intro v5 w5 ho5 hg5
        obtain ⟨A5, c5, rfl, -⟩ := owned_slice ho5
        refine hK.out _ _ ?_ (fun hHeld => ?_)
        · exact ⟨cell_grown hHeld.1 hg5 NE0.out, cell_grown hHeld.2 hg5 NEB.out⟩
        clear hK K
        try simp only [Act.put, List.setIfInBounds_toArray, List.set_cons_zero, List.set_cons_succ]
        refine wpAnyH_take (i := 9) (oi := ⟨some 41, _, _, _, _, _⟩) (v := ?_) rfl (by kernel_rfl) (by kernel_rfl) (by kernel_rfl) (fun _ _ _ h => h) (Or.inl ⟨by kernel_rfl, ?_⟩) hHeld ?_
        rotate_left
        · intro w1 hSw; (try dsimp only at hSw); go_simp <;> with_reducible rfl
        try simp only [Act.put, List.setIfInBounds_toArray, List.set_cons_zero, List.set_cons_succ]
        refine wpAnyH_ready (rs := [10]) (by kernel_rfl) (by simp) ?_
        refine AllReadyH.cons rfl (fun K hK => ?_) (AllReadyH.nil)
        have z5 : Row w5 g6 25 [.int .i64 ti, .int .i64 sp, v, .slice none 0 0] := Row.grown (w := (wr.drew.alloc (.cells #[Value.float .f32 x] 90))) (HR6.out.old ((Below.refl wr.heap.size wr).drew.alloc (Nat.le_refl _) (.cells #[Value.float .f32 x] 90))) hg5 NE6.out
        have m3 := z5.cell 2
        have mf := z5.free 2
        simp only [List.getElem?_cons_succ, List.getElem?_cons_zero] at m3
        go_simp
        refine hK.out _ _ ?_ (fun hHeld => ?_)
        · exact ⟨(cell_setfar _ (by show _ ≠ g6; have := HG6.out; omega)).trans hHeld.1, (cell_setfar _ (by show _ ≠ g6; have := HG6.out; have := HBL.out; omega)).trans hHeld.2⟩
        clear hK K
        try simp only [Act.put, List.setIfInBounds_toArray, List.set_cons_zero, List.set_cons_succ]
        refine wpAnyH_done (by kernel_rfl) ?_ _
        have Hb5 : Hid (Below B1 wr w5) := ((Below.refl B1 wr).drew.alloc HB1.out (.cells #[Value.float .f32 x] 90)).grown hg5 (by have := HB1.out; simp; omega) (fun q hq => (HO.out.lt q hq).1)
        have HR5 : Hid (Row w5 g6 25 [.int .i64 ti, .int .i64 sp, v, .slice none 0 0]) := Row.grown (w := (wr.drew.alloc (.cells #[Value.float .f32 x] 90))) (HR6.out.old ((Below.refl wr.heap.size wr).drew.alloc (Nat.le_refl _) (.cells #[Value.float .f32 x] 90))) hg5 NE6.out
        have HO5 : Hid (w5.ownsRow B1 90 1 (.slice A5 (i - f + 1) c5) (i + 1 - f) (flts ((xs.drop f).take (i + 1 - f)))) := by
          unfold Hid; rw [HT.out, show i + 1 - f = i - f + 1 by omega, flts_app1]; exact ho5
        clear hHeld hg5 ho5 z2
        go_wp2
        go_roundw
        case rel =>
          refine ⟨i + 1, .slice A5 (i - f + 1) c5, by omega, by omega, by go_num, ?_, HR5.out.set 2 _, ?_, ?_, ?_⟩
          · exact owns_other g6 HO5.out (fun j _ hne => heap_setCell_other w5 ⟨g6, 2, none⟩ j _ hne) (fun e => by have := (HO5.out.lt _ e).1; have := HG1.out; omega)
          · exact fun j hj hne => ((heap_setCell_other w5 ⟨g6, 2, none⟩ j _ hne).trans (Hb5.out.block j hj)).trans (KK.out j hj hne)
          · exact (HBW.out.trans (Hb5.out.mono (by have := HG1.out; have := HG6.out; omega))).setCell (p := ⟨g6, 2, none⟩) (by show w.heap.size ≤ g6; have := HG6.out; omega) _
          · have h2 := ((Below.refl 0 w5).setCell (p := ⟨g6, 2, none⟩) (Nat.zero_le _) (.slice A5 (i - f + 1) c5)).size
            have h3 := Hb5.out.size
            have h4 := HB1.out
            show B1 ≤ _
            omega
        case measure => simp [intOf]; omega
    · have hti : i = t := by omega
      subst hti
      have HV := Lib.hid HO.out
      have HRv := Lib.hid HR6.out
      have HSv : Hid (CtS w L0 f i wr) := ⟨K0.out, K1.out, K2.out, HBW.out⟩
      have Z6 : Hid (g6 < wr.heap.size) := HR6.out.lt
      have hV0 : v.ownBlock ≠ some g6 := fun e => by have := (HO.out.lt _ e).1; have := HG1.out; omega
      have HV0 := Lib.hid hV0
      have HB0 := Lib.hid HB1.out
      clear HO HR6 KK HBW HB1 K0 K1 K2 HS1 hlt hV0
      obtain ⟨W2, hW2⟩ : ∃ W2 : World, W2 = wr := ⟨_, rfl⟩
      subst hW2
      go_upto_region 9 with fail
      clear p1
      obtain ⟨B2, hB2⟩ : ∃ B2, B2 = W2.heap.size := ⟨_, rfl⟩
      have HG2 : Hid (g6 < B2) := by unfold Hid; rw [hB2]; exact Z6.out
      clear HB0
      go_loopw [8] (fun i8 wr => ∃ (k : Nat) (u : Value), k ≤ ms.length ∧ i8 = .int .i64 k ∧ Hid (wr.ownsRow B2 83 2 u (cutM f i (ms.take k)).length (markC (cutM f i (ms.take k)))) ∧ Hid (Row wr g6 25 [.int .i64 ti, .int .i64 sp, v, u]) ∧ Hid (∀ j, j < B2 → j ≠ g6 → wr.heap[j]? = W2.heap[j]?) ∧ Hid (Below w.heap.size w wr) ∧ Hid (B2 ≤ wr.heap.size)) (fun i8 _ => ms.length - (intOf i8).toNat)
      case atStart => exact ⟨0, .slice none 0 0, Nat.zero_le _, rfl, World.ownsRow_nil _ _ _ _, HRv, fun j _ _ => rfl, HSv.out.2.2.2, Nat.le_of_eq hB2⟩
      case round =>
        clear HRv
        obtain ⟨k, u, hk, rfl, HO, HR6, KK, HBW, HB1⟩ := hrel
        have K0 : Hid (Row wr w.heap.size 25 L0) := (KK.out _ (by have := HG2.out; have := HG6.out; omega) (by have := HG6.out; omega)).trans HSv.out.1
        have q3 : wr.cell? ⟨w.heap.size, 3, none⟩ = some (.slice B ms.length d) := by rw [K0.out.cell, HL0.out]; rfl
        by_cases hlt : k < ms.length
        · have i1 : (k : Int) < (ms.length : Int) := by omega
          obtain ⟨b, off, hAb, hc1, hc2⟩ := Rd.mark HB.out hlt
          subst hAb
          have HCN := Lib.hid (cutM_next (f := f) (t := i) hlt)
          obtain ⟨ix, hix⟩ : ∃ ix, ix = ms[k].1 := ⟨_, rfl⟩
          obtain ⟨nm, hnm⟩ : ∃ nm, nm = ms[k].2 := ⟨_, rfl⟩
          have hmk : ms[k] = (ix, nm) := by rw [hix, hnm]
          rw [hmk] at HCN
          rw [← hix] at hc1; rw [← hnm] at hc2
          have HBL : Hid (b < w.heap.size) := World.block_lt_of_cell? _ _ hc1
          have HC1 := Lib.hid hc1; have HC2 := Lib.hid hc2
          have HQ : Hid (∀ V : World, (∀ j, j < B2 → j ≠ g6 → V.heap[j]? = W2.heap[j]?) → Below w.heap.size w V → V.cell? ⟨w.heap.size, 3, none⟩ = some (.slice (some ⟨b, off, none⟩) ms.length d) ∧ V.cell? ⟨b, off + k * 2, none⟩ = some (.int .i64 ix) ∧ V.cell? ⟨b, off + k * 2 + 1, none⟩ = some (.string nm) ∧ V.cell? ⟨w.heap.size + 1, 0, none⟩ = some (.int .i64 f) ∧ V.cell? ⟨w.heap.size + 1, 1, none⟩ = some (.int .i64 i)) := fun V hK hV => by
            have k0 : Row V w.heap.size 25 L0 := (hK _ (by have := HG2.out; have := HG6.out; omega) (by have := HG6.out; omega)).trans HSv.out.1
            have k1 : Row V (w.heap.size + 1) 27 [.int .i64 f, .int .i64 i] := (hK _ (by have := HG2.out; have := HG6.out; omega) (by have := HG6.out; omega)).trans HSv.out.2.1
            exact ⟨by rw [k0.cell, HL0.out]; rfl, (hV.cell HBL.out).trans HC1.out, (hV.cell HBL.out).trans HC2.out, k1.cell 0, k1.cell 1⟩
          obtain ⟨-, z1, z2, z3, z4⟩ := HQ.out wr KK.out HBW.out
          clear hix hnm hmk hc1 hc2
          by_cases h1 : (f : Int) ≤ ix
          · by_cases h2 : ix < (i : Int)
            · obtain ⟨iz, hiz⟩ : ∃ iz, iz = wrap64 (ix - (f : Int)) := ⟨_, rfl⟩
              have HT : Hid (cutM f i (ms.take (k + 1)) = cutM f i (ms.take k) ++ [(iz, nm)]) := by
                unfold Hid; rw [HCN.out, if_pos (by unfold inSpan; rw [decide_eq_true h1, decide_eq_true h2]; rfl), hiz, Int.sub_eq_add_neg]; rfl
              have eZ : IntKind.i64.wrap (ix - (f : Int)) = iz := (IntWalk.i64_left _).trans hiz.symm
              have HCL : Hid ((cutM f i (ms.take k)).length ≤ 1000000) := by
                unfold Hid cutM; rw [List.length_map]
                exact Nat.le_trans (List.length_filter_le _ _) (by rw [List.length_take]; omega)
              clear hiz HCN
              go_upto_region 11 with fail
              go_quiet (fail)
              go_upto_region 12 with fail
              refine genR (fun V => V.ownsRow B2 83 2 u (cutM f i (ms.take k)).length (markC (cutM f i (ms.take k))) ∧ Row V g6 25 [.int .i64 ti, .int .i64 sp, v, u] ∧ (∀ j, j < B2 → j ≠ g6 → V.heap[j]? = W2.heap[j]?) ∧ Below w.heap.size w V ∧ B2 ≤ V.heap.size) ⟨owns_below HO.out (below_drewN (Below.refl _ _) _), HR6.out.drewN _, KK.out, below_drewN HBW.out _, HB1.out⟩ ?_
              clear z1 z2 z3 z4 q3 K0 HO HR6 KK HBW HB1
              clear wr
              rintro wr ⟨o1, o2, o3, o4, o5⟩
              have HO := Lib.hid o1; have HR6 := Lib.hid o2; have KK := Lib.hid o3; have HBW := Lib.hid o4; have HB1 := Lib.hid o5
              obtain ⟨x0, x1, x2, x3, -⟩ := HQ.out wr o3 o4
              have Q3 := Lib.hid x0; have QX := Lib.hid x1; have QN := Lib.hid x2; have QF := Lib.hid x3
              have NE0 : Hid (some w.heap.size ≠ u.ownBlock) := own_nb HO.out (by have := HG2.out; have := HG6.out; omega)
              have NE1 : Hid (some (w.heap.size + 1) ≠ u.ownBlock) := own_nb HO.out (by have := HG2.out; have := HG6.out; omega)
              have NEB : Hid (some b ≠ u.ownBlock) := own_nb HO.out (by have := HG2.out; have := HG6.out; have := HBL.out; omega)
              have NE6 : Hid (some g6 ≠ u.ownBlock) := own_nb HO.out HG2.out
              have hcl := HCL.out
              clear o1 o2 o3 o4 o5 x0 x1 x2 x3 h1 h2
              refine wp_region_held_drew (S := fun w' => w'.cell? ⟨w.heap.size, 3, none⟩ = some (.slice (some ⟨b, off, none⟩) ms.length d) ∧ w'.cell? ⟨b, off + k * 2, none⟩ = some (.int .i64 ix) ∧ w'.cell? ⟨b, off + k * 2 + 1, none⟩ = some (.string nm) ∧ w'.cell? ⟨w.heap.size + 1, 0, none⟩ = some (.int .i64 f)) (by kernel_rfl) ?_ (fun hHeld => ?_)
              · exact ⟨Q3.out, QX.out, QN.out, QF.out⟩
              refine wpAnyH_take (i := 0) (oi := ⟨some 69, _, _, _, _, _⟩) (v := ?_) rfl (by kernel_rfl) (by kernel_rfl) (by kernel_rfl) (fun _ _ _ h => h) (Or.inl ⟨by kernel_rfl, ?_⟩) hHeld ?_
              rotate_left
              · intro w1 hSw; (try dsimp only at hSw); go_simp <;> with_reducible rfl
              try simp only [Act.put, List.setIfInBounds_toArray, List.set_cons_zero, List.set_cons_succ]
              refine wpAnyH_take (i := 2) (oi := ⟨some 71, _, _, _, _, _⟩) (v := ?_) rfl (by kernel_rfl) (by kernel_rfl) (by kernel_rfl) (fun _ _ _ h => h) (Or.inl ⟨by kernel_rfl, ?_⟩) hHeld ?_
              rotate_left
              · intro w1 hSw; (try dsimp only at hSw); go_simp <;> with_reducible rfl
              try simp only [Act.put, List.setIfInBounds_toArray, List.set_cons_zero, List.set_cons_succ]
              refine wpAnyH_take (i := 3) (oi := ⟨some 72, _, _, _, _, _⟩) (v := ?_) rfl (by kernel_rfl) (by kernel_rfl) (by kernel_rfl) (fun _ _ _ h => h) (Or.inl ⟨by kernel_rfl, ?_⟩) hHeld ?_
              rotate_left
              · intro w1 hSw; (try dsimp only at hSw); go_simp <;> with_reducible rfl
              try simp only [Act.put, List.setIfInBounds_toArray, List.set_cons_zero, List.set_cons_succ]
              refine wpAnyH_take (i := 4) (oi := ⟨some 73, _, _, _, _, _⟩) (v := ?_) rfl (by kernel_rfl) (by kernel_rfl) (by kernel_rfl) (fun _ _ _ h => h) (Or.inl ⟨by kernel_rfl, ?_⟩) hHeld ?_
              rotate_left
              · intro w1 hSw; (try dsimp only at hSw); go_simp <;> with_reducible rfl
              try simp only [Act.put, List.setIfInBounds_toArray, List.set_cons_zero, List.set_cons_succ]
              refine wpAnyH_take (i := 5) (oi := ⟨some 74, _, _, _, _, _⟩) (v := ?_) rfl (by kernel_rfl) (by kernel_rfl) (by kernel_rfl) (fun _ _ _ h => h) (Or.inl ⟨by kernel_rfl, ?_⟩) hHeld ?_
              rotate_left
              · intro w1 hSw; (try dsimp only at hSw); go_simp <;> with_reducible rfl
              try simp only [Act.put, List.setIfInBounds_toArray, List.set_cons_zero, List.set_cons_succ]
              refine wpAnyH_take (i := 6) (oi := ⟨some 75, _, _, _, _, _⟩) (v := ?_) rfl (by kernel_rfl) (by kernel_rfl) (by kernel_rfl) (fun _ _ _ h => h) (Or.inl ⟨by kernel_rfl, ?_⟩) hHeld ?_
              rotate_left
              · intro w1 hSw; (try dsimp only at hSw); go_simp <;> with_reducible rfl
              try simp only [Act.put, List.setIfInBounds_toArray, List.set_cons_zero, List.set_cons_succ]
              refine wpAnyH_take (i := 7) (oi := ⟨some 76, _, _, _, _, _⟩) (v := ?_) rfl (by kernel_rfl) (by kernel_rfl) (by kernel_rfl) (fun _ _ _ h => h) (Or.inl ⟨by kernel_rfl, ?_⟩) hHeld ?_
              rotate_left
              · intro w1 hSw; (try dsimp only at hSw); go_simp <;> with_reducible rfl
              try simp only [Act.put, List.setIfInBounds_toArray, List.set_cons_zero, List.set_cons_succ]
              refine wpAnyH_take (i := 8) (oi := ⟨some 77, _, _, _, _, _⟩) (v := ?_) rfl (by kernel_rfl) (by kernel_rfl) (by kernel_rfl) (fun _ _ _ h => h) (Or.inl ⟨by kernel_rfl, ?_⟩) hHeld ?_
              rotate_left
              · intro w1 hSw; (try dsimp only at hSw); go_simp <;> with_reducible rfl
              try simp only [Act.put, List.setIfInBounds_toArray, List.set_cons_zero, List.set_cons_succ]
              refine wpAnyH_take (i := 9) (oi := ⟨some 78, _, _, _, _, _⟩) (v := ?_) rfl (by kernel_rfl) (by kernel_rfl) (by kernel_rfl) (fun _ _ _ h => h) (Or.inl ⟨by kernel_rfl, ?_⟩) hHeld ?_
              rotate_left
              · intro w1 hSw; (try dsimp only at hSw); go_simp <;> with_reducible rfl
              try simp only [Act.put, List.setIfInBounds_toArray, List.set_cons_zero, List.set_cons_succ]
              refine wpAnyH_take (i := 10) (oi := ⟨some 79, _, _, _, _, _⟩) (v := ?_) rfl (by kernel_rfl) (by kernel_rfl) (by kernel_rfl) (fun _ _ _ h => h) (Or.inl ⟨by kernel_rfl, ?_⟩) hHeld ?_
              rotate_left
              · intro w1 hSw; (try dsimp only at hSw); go_simp <;> with_reducible rfl
              try simp only [Act.put, List.setIfInBounds_toArray, List.set_cons_zero, List.set_cons_succ]
              refine wpAnyH_take (i := 11) (oi := ⟨some 80, _, _, _, _, _⟩) (v := ?_) rfl (by kernel_rfl) (by kernel_rfl) (by kernel_rfl) (fun _ _ _ h => h) (Or.inl ⟨by kernel_rfl, ?_⟩) hHeld ?_
              rotate_left
              · intro w1 hSw; (try dsimp only at hSw); go_simp <;> with_reducible rfl
              try simp only [Act.put, List.setIfInBounds_toArray, List.set_cons_zero, List.set_cons_succ]
              refine wpAnyH_take (i := 12) (oi := ⟨some 81, _, _, _, _, _⟩) (v := ?_) rfl (by kernel_rfl) (by kernel_rfl) (by kernel_rfl) (fun _ _ _ h => h) (Or.inl ⟨by kernel_rfl, ?_⟩) hHeld ?_
              rotate_left
              · intro w1 hSw; (try dsimp only at hSw); go_simp <;> with_reducible rfl
              try simp only [Act.put, List.setIfInBounds_toArray, List.set_cons_zero, List.set_cons_succ]
              refine wpAnyH_take (i := 13) (oi := ⟨some 82, _, _, _, _, _⟩) (v := ?_) rfl (by kernel_rfl) (by kernel_rfl) (by kernel_rfl) (fun _ _ _ h => h) (Or.inl ⟨by kernel_rfl, ?_⟩) hHeld ?_
              rotate_left
              · intro w1 hSw; (try dsimp only at hSw); go_simp <;> with_reducible rfl
              try simp only [Act.put, List.setIfInBounds_toArray, List.set_cons_zero, List.set_cons_succ]
              refine wpAnyH_take (i := 14) (oi := ⟨some 83, _, _, _, _, _⟩) (v := ?_) rfl (by kernel_rfl) (by kernel_rfl) (by kernel_rfl) (fun _ _ _ h => h) (Or.inl ⟨by kernel_rfl, ?_⟩) hHeld ?_
              rotate_left
              · intro w1 hSw; (try dsimp only at hSw); go_simp <;> with_reducible rfl
              try simp only [Act.put, List.setIfInBounds_toArray, List.set_cons_zero, List.set_cons_succ]
              refine wpAnyH_take (i := 15) (oi := ⟨some 84, _, _, _, _, _⟩) (v := ?_) rfl (by kernel_rfl) (by kernel_rfl) (by kernel_rfl) (fun _ _ _ h => h) (Or.inl ⟨by kernel_rfl, ?_⟩) hHeld ?_
              rotate_left
              · intro w1 hSw; (try dsimp only at hSw); go_simp <;> with_reducible rfl
              try simp only [Act.put, List.setIfInBounds_toArray, List.set_cons_zero, List.set_cons_succ]
              refine wpAnyH_take (i := 16) (oi := ⟨some 85, _, _, _, _, _⟩) (v := ?_) rfl (by kernel_rfl) (by kernel_rfl) (by kernel_rfl) (fun _ _ _ h => h) (Or.inl ⟨by kernel_rfl, ?_⟩) hHeld ?_
              rotate_left
              · intro w1 hSw; (try dsimp only at hSw); go_simp <;> with_reducible rfl
              try simp only [Act.put, List.setIfInBounds_toArray, List.set_cons_zero, List.set_cons_succ]
              refine wpAnyH_take (i := 17) (oi := ⟨some 86, _, _, _, _, _⟩) (v := ?_) rfl (by kernel_rfl) (by kernel_rfl) (by kernel_rfl) (fun _ _ _ h => h) (Or.inl ⟨by kernel_rfl, ?_⟩) hHeld ?_
              rotate_left
              · intro w1 hSw; (try dsimp only at hSw); go_simp <;> with_reducible rfl
              try simp only [Act.put, List.setIfInBounds_toArray, List.set_cons_zero, List.set_cons_succ]
              refine wpAnyH_ready (rs := [1, 18]) (by kernel_rfl) (by simp) ?_
              refine AllReadyH.cons rfl (fun K hK => ?_) (AllReadyH.cons rfl (fun K hK => ?_) (AllReadyH.nil))
              ·
                have z2 : (wr.drew).cell? ⟨g6, 3, none⟩ = some u := HR6.out.cell 3
                go_simp
                refine hK.out _ _ ?_ (fun hHeld => ?_)
                · exact hHeld
                clear hK K
                try simp only [Act.put, List.setIfInBounds_toArray, List.set_cons_zero, List.set_cons_succ]
                refine wpAnyH_ready (rs := [18]) (by kernel_rfl) (by simp) ?_
                refine AllReadyH.cons rfl (fun K hK => ?_) (AllReadyH.nil)
                go_simp
                refine hK.out _ _ ?_ (fun hHeld => ?_)
                · exact ⟨keepC hHeld.1 ((Below.refl _ _).alloc (Nat.le_refl _) _), keepC hHeld.2.1 ((Below.refl _ _).alloc (Nat.le_refl _) _), keepC hHeld.2.2.1 ((Below.refl _ _).alloc (Nat.le_refl _) _), keepC hHeld.2.2.2 ((Below.refl _ _).alloc (Nat.le_refl _) _)⟩
                clear hK K
                try simp only [Act.put, List.setIfInBounds_toArray, List.set_cons_zero, List.set_cons_succ]
                refine wpAnyH_ready (rs := [19]) (by kernel_rfl) (by simp) ?_
                refine AllReadyH.cons rfl (fun K hK => ?_) (AllReadyH.nil)
                refine step_app rfl (.tmp 70) (.tmp 87) 23 rfl B2 83 (.agg #[.int .i64 0, .string ⟨#[]⟩]) 2 24 Tryz.underlying23 info185 rfl (by decide) u (cutM f i (ms.take k)).length (markC (cutM f i (ms.take k))) (by simp [Act.eval, Act.put]) (owns_below HO.out ((Below.refl wr.heap.size wr).drew.alloc (Nat.le_refl _) (.cells #[Value.int .i64 iz, Value.string nm] 83))) wr.heap.size 1 1 [.int .i64 iz, .string nm] (by simp [Act.eval, Act.put]) 83 (Row.new wr.drew 83 [.int .i64 iz, .string nm]) rfl (by simp [Value.oneCell']) (by unfold maxLen; omega) (by omega) (by have := HB1.out; simp; omega) ?_
                intro v5 w5 ho5 hg5
                obtain ⟨A5, c5, rfl, -⟩ := owned_slice ho5
                refine hK.out _ _ ?_ (fun hHeld => ?_)
                · exact ⟨cell_grown hHeld.1 hg5 NE0.out, cell_grown hHeld.2.1 hg5 NEB.out, cell_grown hHeld.2.2.1 hg5 NEB.out, cell_grown hHeld.2.2.2 hg5 NE1.out⟩
                clear hK K
                try simp only [Act.put, List.setIfInBounds_toArray, List.set_cons_zero, List.set_cons_succ]
                refine wpAnyH_take (i := 20) (oi := ⟨some 89, _, _, _, _, _⟩) (v := ?_) rfl (by kernel_rfl) (by kernel_rfl) (by kernel_rfl) (fun _ _ _ h => h) (Or.inl ⟨by kernel_rfl, ?_⟩) hHeld ?_
                rotate_left
                · intro w1 hSw; (try dsimp only at hSw); go_simp <;> with_reducible rfl
                try simp only [Act.put, List.setIfInBounds_toArray, List.set_cons_zero, List.set_cons_succ]
                refine wpAnyH_ready (rs := [21]) (by kernel_rfl) (by simp) ?_
                refine AllReadyH.cons rfl (fun K hK => ?_) (AllReadyH.nil)
                have z5 : Row w5 g6 25 [.int .i64 ti, .int .i64 sp, v, u] := Row.grown (w := (wr.drew.alloc (.cells #[Value.int .i64 iz, Value.string nm] 83))) (HR6.out.old ((Below.refl wr.heap.size wr).drew.alloc (Nat.le_refl _) (.cells #[Value.int .i64 iz, Value.string nm] 83))) hg5 NE6.out
                have m3 := z5.cell 3
                have mf := z5.free 3
                simp only [List.getElem?_cons_succ, List.getElem?_cons_zero] at m3
                go_simp
                refine hK.out _ _ ?_ (fun hHeld => ?_)
                · exact ⟨(cell_setfar _ (by show _ ≠ g6; have := HG6.out; omega)).trans hHeld.1, (cell_setfar _ (by show _ ≠ g6; have := HG6.out; have := HBL.out; omega)).trans hHeld.2.1, (cell_setfar _ (by show _ ≠ g6; have := HG6.out; have := HBL.out; omega)).trans hHeld.2.2.1, (cell_setfar _ (by show _ ≠ g6; have := HG6.out; omega)).trans hHeld.2.2.2⟩
                clear hK K
                try simp only [Act.put, List.setIfInBounds_toArray, List.set_cons_zero, List.set_cons_succ]
                refine wpAnyH_done (by kernel_rfl) ?_ _
                have Hb5 : Hid (Below B2 wr w5) := ((Below.refl B2 wr).drew.alloc HB1.out (.cells #[Value.int .i64 iz, Value.string nm] 83)).grown hg5 (by have := HB1.out; simp; omega) (fun q hq => (HO.out.lt q hq).1)
                have HR5 : Hid (Row w5 g6 25 [.int .i64 ti, .int .i64 sp, v, u]) := Row.grown (w := (wr.drew.alloc (.cells #[Value.int .i64 iz, Value.string nm] 83))) (HR6.out.old ((Below.refl wr.heap.size wr).drew.alloc (Nat.le_refl _) (.cells #[Value.int .i64 iz, Value.string nm] 83))) hg5 NE6.out
                have HO5 : Hid (w5.ownsRow B2 83 2 (.slice A5 ((cutM f i (ms.take k)).length + 1) c5) (cutM f i (ms.take (k + 1))).length (markC (cutM f i (ms.take (k + 1))))) := by
                  unfold Hid; rw [HT.out, List.length_append, markC_app]; exact ho5
                clear hHeld hg5 ho5 z2
                go_wp2
                go_roundw
                case rel =>
                  refine ⟨k + 1, (.slice A5 ((cutM f i (ms.take k)).length + 1) c5), by omega, by go_num, ?_, HR5.out.set 3 _, ?_, ?_, ?_⟩
                  · exact owns_other g6 HO5.out (fun j _ hne => heap_setCell_other w5 ⟨g6, 3, none⟩ j _ hne) (fun e => by have := (HO5.out.lt _ e).1; have := HG2.out; omega)
                  · exact fun j hj hne => ((heap_setCell_other w5 ⟨g6, 3, none⟩ j _ hne).trans (Hb5.out.block j hj)).trans (KK.out j hj hne)
                  · exact (HBW.out.trans (Hb5.out.mono (by have := HG2.out; have := HG6.out; omega))).setCell (p := ⟨g6, 3, none⟩) (by show w.heap.size ≤ g6; have := HG6.out; omega) _
                  · have h2 := ((Below.refl 0 w5).setCell (p := ⟨g6, 3, none⟩) (Nat.zero_le _) (.slice A5 ((cutM f i (ms.take k)).length + 1) c5)).size
                    have h3 := Hb5.out.size
                    have h4 := HB1.out
                    show B2 ≤ _
                    omega
                case measure => simp [intOf]; omega
              ·
                go_simp
                refine hK.out _ _ ?_ (fun hHeld => ?_)
                · exact ⟨keepC hHeld.1 ((Below.refl _ _).alloc (Nat.le_refl _) _), keepC hHeld.2.1 ((Below.refl _ _).alloc (Nat.le_refl _) _), keepC hHeld.2.2.1 ((Below.refl _ _).alloc (Nat.le_refl _) _), keepC hHeld.2.2.2 ((Below.refl _ _).alloc (Nat.le_refl _) _)⟩
                clear hK K
                try simp only [Act.put, List.setIfInBounds_toArray, List.set_cons_zero, List.set_cons_succ]
                refine wpAnyH_ready (rs := [1]) (by kernel_rfl) (by simp) ?_
                refine AllReadyH.cons rfl (fun K hK => ?_) (AllReadyH.nil)
                have z2 : (wr.alloc (.cells #[Value.int .i64 iz, Value.string nm] 83)).drew.cell? ⟨g6, 3, none⟩ = some u := keepC (W := wr) (HR6.out.cell 3) ((Below.refl _ wr).alloc (Nat.le_refl _) (.cells #[Value.int .i64 iz, Value.string nm] 83)).drew
                go_simp
                refine hK.out _ _ ?_ (fun hHeld => ?_)
                · exact hHeld
                clear hK K
                try simp only [Act.put, List.setIfInBounds_toArray, List.set_cons_zero, List.set_cons_succ]
                refine wpAnyH_ready (rs := [19]) (by kernel_rfl) (by simp) ?_
                refine AllReadyH.cons rfl (fun K hK => ?_) (AllReadyH.nil)
                refine step_app rfl (.tmp 70) (.tmp 87) 23 rfl B2 83 (.agg #[.int .i64 0, .string ⟨#[]⟩]) 2 24 Tryz.underlying23 info185 rfl (by decide) u (cutM f i (ms.take k)).length (markC (cutM f i (ms.take k))) (by simp [Act.eval, Act.put]) (owns_below HO.out ((Below.refl wr.heap.size wr).drew.alloc (Nat.le_refl _) (.cells #[Value.int .i64 iz, Value.string nm] 83))) wr.heap.size 1 1 [.int .i64 iz, .string nm] (by simp [Act.eval, Act.put]) 83 (Row.new wr.drew 83 [.int .i64 iz, .string nm]) rfl (by simp [Value.oneCell']) (by unfold maxLen; omega) (by omega) (by have := HB1.out; simp; omega) ?_
                intro v5 w5 ho5 hg5
                obtain ⟨A5, c5, rfl, -⟩ := owned_slice ho5
                refine hK.out _ _ ?_ (fun hHeld => ?_)
                · exact ⟨cell_grown hHeld.1 hg5 NE0.out, cell_grown hHeld.2.1 hg5 NEB.out, cell_grown hHeld.2.2.1 hg5 NEB.out, cell_grown hHeld.2.2.2 hg5 NE1.out⟩
                clear hK K
                try simp only [Act.put, List.setIfInBounds_toArray, List.set_cons_zero, List.set_cons_succ]
                refine wpAnyH_take (i := 20) (oi := ⟨some 89, _, _, _, _, _⟩) (v := ?_) rfl (by kernel_rfl) (by kernel_rfl) (by kernel_rfl) (fun _ _ _ h => h) (Or.inl ⟨by kernel_rfl, ?_⟩) hHeld ?_
                rotate_left
                · intro w1 hSw; (try dsimp only at hSw); go_simp <;> with_reducible rfl
                try simp only [Act.put, List.setIfInBounds_toArray, List.set_cons_zero, List.set_cons_succ]
                refine wpAnyH_ready (rs := [21]) (by kernel_rfl) (by simp) ?_
                refine AllReadyH.cons rfl (fun K hK => ?_) (AllReadyH.nil)
                have z5 : Row w5 g6 25 [.int .i64 ti, .int .i64 sp, v, u] := Row.grown (w := (wr.drew.alloc (.cells #[Value.int .i64 iz, Value.string nm] 83))) (HR6.out.old ((Below.refl wr.heap.size wr).drew.alloc (Nat.le_refl _) (.cells #[Value.int .i64 iz, Value.string nm] 83))) hg5 NE6.out
                have m3 := z5.cell 3
                have mf := z5.free 3
                simp only [List.getElem?_cons_succ, List.getElem?_cons_zero] at m3
                go_simp
                refine hK.out _ _ ?_ (fun hHeld => ?_)
                · exact ⟨(cell_setfar _ (by show _ ≠ g6; have := HG6.out; omega)).trans hHeld.1, (cell_setfar _ (by show _ ≠ g6; have := HG6.out; have := HBL.out; omega)).trans hHeld.2.1, (cell_setfar _ (by show _ ≠ g6; have := HG6.out; have := HBL.out; omega)).trans hHeld.2.2.1, (cell_setfar _ (by show _ ≠ g6; have := HG6.out; omega)).trans hHeld.2.2.2⟩
                clear hK K
                try simp only [Act.put, List.setIfInBounds_toArray, List.set_cons_zero, List.set_cons_succ]
                refine wpAnyH_done (by kernel_rfl) ?_ _
                have Hb5 : Hid (Below B2 wr w5) := ((Below.refl B2 wr).drew.alloc HB1.out (.cells #[Value.int .i64 iz, Value.string nm] 83)).grown hg5 (by have := HB1.out; simp; omega) (fun q hq => (HO.out.lt q hq).1)
                have HR5 : Hid (Row w5 g6 25 [.int .i64 ti, .int .i64 sp, v, u]) := Row.grown (w := (wr.drew.alloc (.cells #[Value.int .i64 iz, Value.string nm] 83))) (HR6.out.old ((Below.refl wr.heap.size wr).drew.alloc (Nat.le_refl _) (.cells #[Value.int .i64 iz, Value.string nm] 83))) hg5 NE6.out
                have HO5 : Hid (w5.ownsRow B2 83 2 (.slice A5 ((cutM f i (ms.take k)).length + 1) c5) (cutM f i (ms.take (k + 1))).length (markC (cutM f i (ms.take (k + 1))))) := by
                  unfold Hid; rw [HT.out, List.length_append, markC_app]; exact ho5
                clear hHeld hg5 ho5 z2
                go_wp2
                go_roundw
                case rel =>
                  refine ⟨k + 1, (.slice A5 ((cutM f i (ms.take k)).length + 1) c5), by omega, by go_num, ?_, HR5.out.set 3 _, ?_, ?_, ?_⟩
                  · exact owns_other g6 HO5.out (fun j _ hne => heap_setCell_other w5 ⟨g6, 3, none⟩ j _ hne) (fun e => by have := (HO5.out.lt _ e).1; have := HG2.out; omega)
                  · exact fun j hj hne => ((heap_setCell_other w5 ⟨g6, 3, none⟩ j _ hne).trans (Hb5.out.block j hj)).trans (KK.out j hj hne)
                  · exact (HBW.out.trans (Hb5.out.mono (by have := HG2.out; have := HG6.out; omega))).setCell (p := ⟨g6, 3, none⟩) (by show w.heap.size ≤ g6; have := HG6.out; omega) _
                  · have h2 := ((Below.refl 0 w5).setCell (p := ⟨g6, 3, none⟩) (Nat.zero_le _) (.slice A5 ((cutM f i (ms.take k)).length + 1) c5)).size
                    have h3 := Hb5.out.size
                    have h4 := HB1.out
                    show B2 ≤ _
                    omega
                case measure => simp [intOf]; omega
            · have HT : Hid (cutM f i (ms.take (k + 1)) = cutM f i (ms.take k)) := by
                unfold Hid; rw [HCN.out, if_neg (by unfold inSpan; rw [decide_eq_true h1, decide_eq_false h2]; decide), List.append_nil]
              have g2 : decide (ix < (i : Int)) = false := decide_eq_false h2
              clear HCN
              go_wp2
              go_quiet (fail)
              go_wp2
              go_roundw
              case rel => exact ⟨k + 1, u, by omega, by go_num, by show World.ownsRow _ _ _ _ _ _ _; rw [HT.out]; exact owns_below HO.out (below_drewN (Below.refl _ _) _), HR6.out.drewN _, KK.out, below_drewN HBW.out _, HB1.out⟩
              case measure => simp [intOf]; omega
          · have HT : Hid (cutM f i (ms.take (k + 1)) = cutM f i (ms.take k)) := by
              unfold Hid; rw [HCN.out, if_neg (by unfold inSpan; rw [decide_eq_false h1]; simp), List.append_nil]
            have g1 : decide ((f : Int) ≤ ix) = false := decide_eq_false h1
            clear HCN
            go_wp2
            go_quiet (fail)
            go_wp2
            go_roundw
            case rel => exact ⟨k + 1, u, by omega, by go_num, by show World.ownsRow _ _ _ _ _ _ _; rw [HT.out]; exact owns_below HO.out (below_drewN (Below.refl _ _) _), HR6.out.drewN _, KK.out, below_drewN HBW.out _, HB1.out⟩
            case measure => simp [intOf]; omega
        · obtain rfl : k = ms.length := by omega
          have hu := HO.out
          rw [List.take_length] at hu
          have HU := Lib.hid hu
          have hv := owns_other g6 HV.out (fun j hj hne => KK.out j (by rw [hB2]; exact hj) hne) HV0.out
          obtain ⟨A2, c2, rfl, -⟩ := owned_slice hv
          obtain ⟨A3, c3, rfl, -⟩ := owned_slice hu
          have HVr := Lib.hid hv
          have K2 : Hid (Row wr (w.heap.size + 1 + 1) 25 zero4) := (KK.out _ (by have := HG2.out; have := HG6.out; omega) (by have := HG6.out; omega)).trans HSv.out.2.2.1
          have j1 := HG1.out; have j2 := HG2.out; have j6 := HG6.out
          clear hu hv HO hlt
          go_wp2_with (first
            | (refine wpList_load_row rfl 25 _ rfl g6 rfl 25 #[.int .i64 ti, .int .i64 sp, .slice A2 (i - f) c2, .slice A3 (cutM f i ms).length c3] (0, 0) _ HR6.out Tryz.underlying25 rfl ?_ ?_; (kernel_rfl))
            | (refine wpList_store_row rfl 25 _ _ rfl (w.heap.size + 1 + 1) #[.int .i64 ti, .int .i64 sp, .slice A2 (i - f) c2, .slice A3 (cutM f i ms).length c3] rfl rfl 25 _ K2.out ?_ ?_ ?_ ?_; (kernel_rfl); (rfl); (simp [Value.oneCell'])))
          refine bodyPost_ret (results_row_tmp rfl _ _ (w.heap.size + 1 + 1) 25 _ (0, 0) _ rfl (K2.out.setRow [.int .i64 ti, .int .i64 sp, .slice A2 (i - f) c2, .slice A3 (cutM f i ms).length c3]) Tryz.underlying25 rfl (by kernel_rfl)) rfl ⟨.slice A2 (i - f) c2, .slice A3 (cutM f i ms).length c3, rfl, ?_, ?_, ?_⟩
          · exact owns_far HVr.out _ _ (by omega) (by omega)
          · exact owns_far HU.out _ _ (by omega) (by omega)
          · exact Below.setRow HBW.out (by omega) _
end Go.Proofs.YtphgfiihccofnaaGreatDoor
