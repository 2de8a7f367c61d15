import Derived.Test.YtjdniebjhilooaaGreatDoorM20
namespace Go.Proofs.YtjdniebjhilooaaGreatDoor
set_option linter.all false
open Go.RowKit Go.Fl
def FA := @List.setIfInBounds_toArray
def FD := @wpAnyH_take
def FE := @AllReadyH.cons
def FF := @AllReadyH.nil
def FG := @wpAnyH_ready
def FB := @List.set_cons_zero
def FC := @List.set_cons_succ
theorem genR {p : World → Prop} {w : World} (S : World → Prop) (h : S w) (hp : ∀ W, S W → p W) : p w := hp w h
theorem checkTick_any (n : Int) (w : World) : Calls Tryz.prog 57 #[.int .i64 n] w fun e w' => e = .returned (.int .i64 (whenI (rangeB n 0 100000000) 3)) ∧ w = w' := by
 go_enter Tryz.func57, Tryz.ntmps57
 go_wp2_with (go_at_call 58; refine (checkRange_any _ _ _ _).mono ?_; rintro e w' ⟨rfl, rfl⟩)
 go_ret
 exact ⟨rfl, rfl⟩
theorem checkName_any (s : ByteArray) (w : World) : Calls Tryz.prog 61 #[.string s] w fun e w' => e = .returned (.int .i64 (whenI (!nameL s.data.toList) 8)) ∧ Below w.heap.size w w' := by
 go_enter Tryz.func61, Tryz.ntmps61
 go_wp2_with (first
  | (go_at_call 121; refine (isNameR_any _ _).mono ?_; rintro e w' ⟨rfl, rfl⟩)
  | (go_at_call 60; refine (when_any _ _ _).mono ?_; rintro e w' ⟨rfl, rfl⟩))
 go_ret
 exact ⟨rfl, Below.refl _ _⟩
theorem firstI_nil : firstI [] = 0 := rfl
theorem firstI_cons (x : Int) (zs : List Int) : firstI (x :: zs) = if x = 0 then firstI zs else x := rfl
theorem firstI_app : ∀ (ys zs : List Int), firstI (ys ++ zs) = if firstI ys = 0 then firstI zs else firstI ys
 | [], zs => by simp [firstI]
 | y :: ys, zs => by
   rw [List.cons_append, firstI_cons, firstI_cons, firstI_app ys zs]
   by_cases h : y = 0
   · rw [if_pos h, if_pos h]
   · rw [if_neg h, if_neg h, if_neg h]
def rec3 (st sp : Int) (xs : List Nat) : Int := firstI [whenI (rangeB st 0 100000000) 3, whenI (rangeB sp 1 1000) 3, sampsI xs]
theorem recI_split (st sp : Int) (xs : List Nat) (ms : List (Int × ByteArray)) : recI st sp xs ms = if rec3 st sp xs = 0 then firstI [whenI (decide (0 < xs.length) && decide (100000000 < tickI st sp ((xs.length : Int) - 1))) 4, marksI xs.length ms] else rec3 st sp xs :=
 firstI_app [whenI (rangeB st 0 100000000) 3, whenI (rangeB sp 1 1000) 3, sampsI xs] _
theorem rec3_zero {st sp : Int} {xs : List Nat} (h : rec3 st sp xs = 0) : (0 ≤ st ∧ st ≤ 100000000) ∧ (1 ≤ sp ∧ sp ≤ 1000) ∧ xs.length ≤ 4096 := by
 have hz := firstI_allz h
 have ha : ∀ {n a b : Int}, whenI (rangeB n a b) 3 = 0 → a ≤ n ∧ n ≤ b := fun {n a b} hh => by
  cases hq : rangeB n a b with
  | true => rw [hq] at hh; simp [whenI] at hh
  | false => simp [rangeB] at hq; omega
 exact ⟨ha (hz _ (by simp)), ha (hz _ (by simp)), (samps_zero (hz _ (by simp))).1⟩
set_option maxRecDepth 100000 in
set_option maxHeartbeats 6000000 in
theorem checkRecordingR_any (st sp : Int) (A B : Option Addr) (n c m d : Nat) (xs : List Nat) (ms : List (Int × ByteArray)) (w : World) (hA : Rd w A (flts xs)) (hB : Rd w B (markC ms)) (hn : n = xs.length) (hm : m = ms.length) (hc : n ≤ c) (hx : xs.length ≤ 9223372036854775807) (hmm : ms.length ≤ 9223372036854775807) :
 Calls Tryz.prog 12 #[.agg #[.int .i64 st, .int .i64 sp, .slice A n c, .slice B m d]] w fun e w' => e = .returned (.int .i64 (recI st sp xs ms)) ∧ Below w.heap.size w w' := by
 subst hn; subst hm
 have HA : Hid (∀ W, Below w.heap.size w W → Rd W A (flts xs)) := fun W h => hA.below h
 have HB : Hid (∀ W, Below w.heap.size w W → Rd W B (markC ms)) := fun W h => hB.below h
 have HC := Lib.hid hc; have HX := Lib.hid hx
 have R0 := Lib.hid (Row.new w 25 [.int .i64 st, .int .i64 sp, .slice A xs.length c, .slice B ms.length d])
 have B0 : Hid (Below w.heap.size w (w.alloc (.cells #[.int .i64 st, .int .i64 sp, .slice A xs.length c, .slice B ms.length d] 25))) := (Below.refl _ _).alloc (Nat.le_refl _) _
 obtain ⟨E1, hE1⟩ : ∃ E1, E1 = rec3 st sp xs := ⟨_, rfl⟩
 have HE1 : Hid (E1 = firstI [whenI (rangeB st 0 100000000) 3, whenI (rangeB sp 1 1000) 3, sampsI xs]) := hE1
 have hRI := recI_split st sp xs ms
 rw [← hE1] at hRI
 obtain ⟨RI, hRI0⟩ : ∃ RI, RI = recI st sp xs ms := ⟨_, rfl⟩
 rw [← hRI0] at hRI ⊢
 have HE1' := Lib.hid hE1; have HRI' := Lib.hid hRI
 clear hA hB hc hRI0 hE1 hRI
 go_enter Tryz.func12, Tryz.ntmps12
 go_upto_region 1 with fail
 refine genR (fun W => Row W w.heap.size 25 [.int .i64 st, .int .i64 sp, .slice A xs.length c, .slice B ms.length d] ∧ Below w.heap.size w W) ⟨R0.out, B0.out⟩ ?_
 clear R0 B0
 rintro W1 ⟨r1, b1⟩
 have R1 := Lib.hid r1; have HBW := Lib.hid b1
 have q2 : Hid (w.heap.size < W1.heap.size) := r1.lt
 clear r1 b1
 refine wp_region_held_drew (S := fun w' => w'.cell? ⟨w.heap.size, 0, none⟩ = some (.int .i64 st) ∧ w'.cell? ⟨w.heap.size, 1, none⟩ = some (.int .i64 sp) ∧ w'.cell? ⟨w.heap.size, 2, none⟩ = some (.slice A xs.length c) ∧ w'.cell? ⟨w.heap.size, 3, none⟩ = some (.slice B ms.length d) ∧ Below W1.heap.size W1 w') (by kernel_rfl) ?_ (fun hHeld => ?_)
 · exact ⟨R1.out.cell 0, R1.out.cell 1, R1.out.cell 2, R1.out.cell 3, (Below.refl _ _).drew⟩
 refine FD (i := 0) (oi := ⟨some 7, _, _, _, _, _⟩) (v := ?_) rfl (by kernel_rfl) (by kernel_rfl) (by kernel_rfl) (fun _ _ _ h => h) (Or.inl ⟨by kernel_rfl, ?_⟩) hHeld ?_
 rotate_left
 · intro w1 hSw; (try dsimp only at hSw); go_simp <;> with_reducible rfl
 try simp only [Act.put, FA, FB, FC]
 refine FD (i := 1) (oi := ⟨some 8, _, _, _, _, _⟩) (v := ?_) rfl (by kernel_rfl) (by kernel_rfl) (by kernel_rfl) (fun _ _ _ h => h) (Or.inl ⟨by kernel_rfl, ?_⟩) hHeld ?_
 rotate_left
 · intro w1 hSw; (try dsimp only at hSw); go_simp <;> with_reducible rfl
 try simp only [Act.put, FA, FB, FC]
 refine FD (i := 3) (oi := ⟨some 10, _, _, _, _, _⟩) (v := ?_) rfl (by kernel_rfl) (by kernel_rfl) (by kernel_rfl) (fun _ _ _ h => h) (Or.inl ⟨by kernel_rfl, ?_⟩) hHeld ?_
 rotate_left
 · intro w1 hSw; (try dsimp only at hSw); go_simp <;> with_reducible rfl
 try simp only [Act.put, FA, FB, FC]
 refine FD (i := 4) (oi := ⟨some 11, _, _, _, _, _⟩) (v := ?_) rfl (by kernel_rfl) (by kernel_rfl) (by kernel_rfl) (fun _ _ _ h => h) (Or.inl ⟨by kernel_rfl, ?_⟩) hHeld ?_
 rotate_left
 · intro w1 hSw; (try dsimp only at hSw); go_simp <;> with_reducible rfl
 try simp only [Act.put, FA, FB, FC]
 refine FD (i := 6) (oi := ⟨some 13, _, _, _, _, _⟩) (v := ?_) rfl (by kernel_rfl) (by kernel_rfl) (by kernel_rfl) (fun _ _ _ h => h) (Or.inl ⟨by kernel_rfl, ?_⟩) hHeld ?_
 rotate_left
 · intro w1 hSw; (try dsimp only at hSw); go_simp <;> with_reducible rfl
 try simp only [Act.put, FA, FB, FC]
 refine FD (i := 7) (oi := ⟨some 14, _, _, _, _, _⟩) (v := ?_) rfl (by kernel_rfl) (by kernel_rfl) (by kernel_rfl) (fun _ _ _ h => h) (Or.inl ⟨by kernel_rfl, ?_⟩) hHeld ?_
 rotate_left
 · intro w1 hSw; (try dsimp only at hSw); go_simp <;> with_reducible rfl
 try simp only [Act.put, FA, FB, FC]
 refine FG (rs := [2]) (by kernel_rfl) (by simp) ?_
 refine FE rfl (fun K hK => ?_) FF
 go_simp
 go_at_call 57
 refine (checkTick_any _ _).mono ?_
 rintro e w1 ⟨rfl, rfl⟩
 try go_simp
 refine hK.out _ _ ?_ (fun hHeld => ?_)
 · exact hHeld
 clear hK K
 try simp only [Act.put, FA, FB, FC]
 refine FG (rs := [5]) (by kernel_rfl) (by simp) ?_
 refine FE rfl (fun K hK => ?_) FF
 go_simp
 go_at_call 58
 refine (checkRange_any _ _ _ _).mono ?_
 rintro e w1 ⟨rfl, rfl⟩
 try go_simp
 refine hK.out _ _ ?_ (fun hHeld => ?_)
 · exact hHeld
 clear hK K
 try simp only [Act.put, FA, FB, FC]
 refine FG (rs := [8]) (by kernel_rfl) (by simp) ?_
 refine FE rfl (fun K hK => ?_) FF
 go_simp
 go_at_call 59
 refine (checkSamplesR_any _ _ _ xs _ (HA.out _ (HBW.out.trans (hHeld.2.2.2.2.mono HBW.out.size))) rfl HC.out HX.out).mono ?_
 rintro e w2 ⟨rfl, hb2⟩
 try go_simp
 refine hK.out _ _ ?_ (fun hHeld => ?_)
 · exact ⟨keepC hHeld.1 hb2, keepC hHeld.2.1 hb2, keepC hHeld.2.2.1 hb2, keepC hHeld.2.2.2.1 hb2, hHeld.2.2.2.2.trans ((hb2).mono hHeld.2.2.2.2.size)⟩
 clear hK K
 try simp only [Act.put, FA, FB, FC]
 refine FG (rs := [9]) (by kernel_rfl) (by simp) ?_
 refine FE rfl (fun K hK => ?_) FF
 go_simp
 refine hK.out _ _ ?_ (fun hHeld => ?_)
 · exact ⟨keepC hHeld.1 ((Below.refl _ _).alloc (Nat.le_refl _) _), keepC hHeld.2.1 ((Below.refl _ _).alloc (Nat.le_refl _) _), keepC hHeld.2.2.1 ((Below.refl _ _).alloc (Nat.le_refl _) _), keepC hHeld.2.2.2.1 ((Below.refl _ _).alloc (Nat.le_refl _) _), hHeld.2.2.2.2.trans ((((Below.refl _ _).alloc (Nat.le_refl _) _)).mono hHeld.2.2.2.2.size)⟩
 clear hK K
 try simp only [Act.put, FA, FB, FC]
 refine FG (rs := [10]) (by kernel_rfl) (by simp) ?_
 refine FE rfl (fun K hK => ?_) FF
 go_simp
 go_at_call 56
 refine (first_any _ _ _ [whenI (rangeB st 0 100000000) 3, whenI (rangeB sp 1 1000) 3, sampsI xs] _ ?_ rfl (by simp)).mono ?_
 · exact Rd.new _ _ _ _ (by simp)
 rintro e w1 ⟨rfl, rfl⟩
 rw [← HE1.out]
 try go_simp
 refine hK.out _ _ ?_ (fun hHeld => ?_)
 · exact hHeld
 clear hK K
 try simp only [Act.put, FA, FB, FC]
 refine FD (i := 11) (oi := ⟨some 3, _, _, _, _, _⟩) (v := ?_) rfl (by kernel_rfl) (by kernel_rfl) (by kernel_rfl) (fun _ _ _ h => h) (Or.inl ⟨by kernel_rfl, ?_⟩) hHeld ?_
 rotate_left
 · intro w1 hSw; (try dsimp only at hSw); go_simp <;> with_reducible rfl
 try simp only [Act.put, FA, FB, FC]
 refine wpAnyH_done (by kernel_rfl) ?_ _
 have R2 := Lib.hid (R1.out.old hHeld.2.2.2.2); have HBW2 := Lib.hid (HBW.out.trans (hHeld.2.2.2.2.mono HBW.out.size))
 clear hHeld R1 HBW HE1 q2
 go_upto_region 2 with fail
 refine genR (fun W => Row W w.heap.size 25 [.int .i64 st, .int .i64 sp, .slice A xs.length c, .slice B ms.length d] ∧ Below w.heap.size w W) ⟨R2.out, HBW2.out⟩ ?_
 clear R2 HBW2
 rintro W2 ⟨r2, b2⟩
 have R2 := Lib.hid r2; have HBW2 := Lib.hid b2
 have q0 := r2.cell 0; have q1 := r2.cell 1; have q2 := r2.cell 2; have q3 := r2.cell 3
 simp only [List.getElem?_cons_succ, List.getElem?_cons_zero] at q0 q1 q2 q3
 clear r2 b2
 have hE1 := HE1'.out; have hRI := HRI'.out
 clear HE1' HRI'
 by_cases hE0 : E1 = 0
 · have hz := rec3_zero (hE1.symm.trans hE0)
   rw [if_pos hE0] at hRI
   obtain ⟨ti, hti⟩ : ∃ ti, ti = tickI st sp ((xs.length : Int) - 1) := ⟨_, rfl⟩
   have eT : wrap64 (st + wrap64 (sp * ((xs.length : Int) - 1))) = ti := by rw [hti, tickI, Int.mul_comm]
   obtain ⟨LB, hLB⟩ : ∃ LB, LB = (decide (0 < xs.length) && decide (100000000 < ti)) := ⟨_, rfl⟩
   rw [← hti, ← hLB] at hRI
   have HRI := Lib.hid hRI; have HLB := Lib.hid hLB; have HZ := Lib.hid hz
   clear hE1 hRI hLB hz hti
   subst hE0
   go_upto_region 5 with fail
   go_cut [36] from 24 to 37 (fun s36 wx => s36 = .bool LB ∧ wx = W2)
   case first =>
    by_cases h0 : xs.length = 0
    · have g0 : decide (0 < xs.length) = false := decide_eq_false (by omega)
      have hL : LB = false := by rw [HLB.out, decide_eq_false (by omega)]; rfl
      subst hL
      clear h0
      go_wp2_with fail
      go_meet
      exact ⟨rfl, rfl⟩
    · have g0 : 0 < xs.length := by omega
      have hL : LB = decide (100000000 < ti) := by rw [HLB.out, decide_eq_true (by omega)]; rfl
      subst hL
      clear h0
      go_wp2_with fail
      go_meet
      exact ⟨rfl, rfl⟩
   case rest =>
    obtain ⟨rfl, rfl⟩ := hcut
    cases LB
    · have HRI2 : Hid (RI = marksI xs.length ms) := by
       unfold Hid; rw [HRI.out, firstI_cons, if_pos (show whenI false 4 = 0 from rfl), firstI_cons, firstI_nil]
       split
       · rename_i h; exact h.symm
       · rfl
      clear HRI eT
      by_cases h16 : 16 < ms.length
      · have HR3 : Hid (RI = 5) := by unfold Hid; rw [HRI2.out, marksI, if_pos h16]
        have g1 : (16 : Int) < (ms.length : Int) := by omega
        clear h16
        go_wp2
        go_ret
        exact ⟨ret_int HR3.out.symm, HBW2.out⟩
      · have HR3 : Hid (RI = firstI (errL xs.length ms)) := by unfold Hid; rw [HRI2.out, marksI, if_neg h16]
        have g1 : decide ((16 : Int) < (ms.length : Int)) = false := decide_eq_false (by omega)
        go_wp2
        go_loopw [5] (fun i wr => ∃ k : Nat, k ≤ ms.length ∧ i = .int .i64 k ∧ Hid (firstI ((errL xs.length ms).drop k) = RI) ∧ Hid (Row wr w.heap.size 25 [.int .i64 st, .int .i64 sp, .slice A xs.length c, .slice B ms.length d]) ∧ Hid (Below w.heap.size w wr)) (fun i _ => ms.length - (intOf i).toNat)
        case atStart => exact ⟨0, Nat.zero_le _, rfl, HR3.out.symm, R2, HBW2⟩
        case round =>
         clear R2 HBW2 q0 q1 q2 q3
         obtain ⟨k, hk, rfl, HF, R3, HBW3⟩ := hrel
         have q0 := R3.out.cell 0; have q1 := R3.out.cell 1; have q2 := R3.out.cell 2; have q3 := R3.out.cell 3
         simp only [List.getElem?_cons_succ, List.getElem?_cons_zero] at q0 q1 q2 q3
         by_cases hlt : k < ms.length
         · have hl2 : (k : Int) < (ms.length : Int) := by omega
           obtain ⟨b, off, hAb, hc1, hc2⟩ := Rd.mark (HB.out _ HBW3.out) hlt
           subst hAb
           obtain ⟨EK, hEK⟩ : ∃ EK, EK = errAt xs.length ms k := ⟨_, rfl⟩
           have hnx := HF.out
           rw [firstI_drop (by rw [errL_length]; exact hlt), errL_get, ← hEK] at hnx
           have NEXT : Hid ((EK = 0 → Hid (firstI ((errL xs.length ms).drop (k + 1)) = RI)) ∧ (EK ≠ 0 → EK = RI)) :=
            ⟨fun h => by rw [if_pos h] at hnx; exact hnx, fun h => by rw [if_neg h] at hnx; exact hnx⟩
           have hgx : ms.getD k (0, ByteArray.empty) = ms[k] := by simp [List.getD, List.getElem?_eq_getElem hlt]
           obtain ⟨ix, hix⟩ : ∃ ix, ix = ms[k].1 := ⟨_, rfl⟩
           obtain ⟨nm, hnm⟩ : ∃ nm, nm = ms[k].2 := ⟨_, rfl⟩
           have hgx : ms.getD k (0, ByteArray.empty) = (ix, nm) := by rw [hgx, hix, hnm]
           rw [← hix] at hc1; rw [← hnm] at hc2
           have HC1 := Lib.hid hc1; have HC2 := Lib.hid hc2
           clear hnx hix hnm HF hc1 hc2
           by_cases hk0 : k = 0
           · subst hk0
             by_cases hneg : ix < 0
             · have hd1 : decide (ix < 0) = true := decide_eq_true hneg
               have HEK : Hid (EK = firstI [whenI true 10, whenI (!nameL nm.data.toList) 8, whenI false 11]) := by
                unfold Hid; rw [hEK, errAt, hgx]
                simp only [Nat.lt_irrefl, decide_false, Bool.false_and]
                simp only [hd1, Bool.true_or, Bool.false_or]
               clear hEK hgx
               go_upto_region 12 with fail
               refine wp_region_held_drew (S := fun w' => w'.cell? ⟨w.heap.size, 0, none⟩ = some (.int .i64 st) ∧ w'.cell? ⟨w.heap.size, 1, none⟩ = some (.int .i64 sp) ∧ w'.cell? ⟨w.heap.size, 2, none⟩ = some (.slice A xs.length c) ∧ w'.cell? ⟨w.heap.size, 3, none⟩ = some (.slice (some ⟨b, off, none⟩) ms.length d) ∧ w'.cell? ⟨b, off, none⟩ = some (.int .i64 ix) ∧ w'.cell? ⟨b, off + 1, none⟩ = some (.string nm) ∧ Below wr.heap.size wr w') (by kernel_rfl) ?_ (fun hHeld => ?_)
               · exact ⟨R3.out.cell 0, R3.out.cell 1, R3.out.cell 2, R3.out.cell 3, HC1.out, HC2.out, (Below.refl _ _).drew⟩
               refine FD (i := 0) (oi := ⟨some 48, _, _, _, _, _⟩) (v := ?_) rfl (by kernel_rfl) (by kernel_rfl) (by kernel_rfl) (fun _ _ _ h => h) (Or.inl ⟨by kernel_rfl, ?_⟩) hHeld ?_
               rotate_left
               · intro w1 hSw; (try dsimp only at hSw); go_simp <;> with_reducible rfl
               try simp only [Act.put, FA, FB, FC]
               refine FD (i := 1) (oi := ⟨some 49, _, _, _, _, _⟩) (v := ?_) rfl (by kernel_rfl) (by kernel_rfl) (by kernel_rfl) (fun _ _ _ h => h) (Or.inl ⟨by kernel_rfl, ?_⟩) hHeld ?_
               rotate_left
               · intro w1 hSw; (try dsimp only at hSw); go_simp <;> with_reducible rfl
               try simp only [Act.put, FA, FB, FC]
               refine FD (i := 2) (oi := ⟨some 50, _, _, _, _, _⟩) (v := ?_) rfl (by kernel_rfl) (by kernel_rfl) (by kernel_rfl) (fun _ _ _ h => h) (Or.inl ⟨by kernel_rfl, ?_⟩) hHeld ?_
               rotate_left
               · intro w1 hSw; (try dsimp only at hSw); go_simp <;> with_reducible rfl
               try simp only [Act.put, FA, FB, FC]
               refine FD (i := 3) (oi := ⟨some 51, _, _, _, _, _⟩) (v := ?_) rfl (by kernel_rfl) (by kernel_rfl) (by kernel_rfl) (fun _ _ _ h => h) (Or.inl ⟨by kernel_rfl, ?_⟩) hHeld ?_
               rotate_left
               · intro w1 hSw; (try dsimp only at hSw); go_simp <;> with_reducible rfl
               try simp only [Act.put, FA, FB, FC]
               refine FD (i := 4) (oi := ⟨some 52, _, _, _, _, _⟩) (v := ?_) rfl (by kernel_rfl) (by kernel_rfl) (by kernel_rfl) (fun _ _ _ h => h) (Or.inl ⟨by kernel_rfl, ?_⟩) hHeld ?_
               rotate_left
               · intro w1 hSw; (try dsimp only at hSw); go_simp <;> with_reducible rfl
               try simp only [Act.put, FA, FB, FC]
               refine FD (i := 5) (oi := ⟨some 53, _, _, _, _, _⟩) (v := ?_) rfl (by kernel_rfl) (by kernel_rfl) (by kernel_rfl) (fun _ _ _ h => h) (Or.inl ⟨by kernel_rfl, ?_⟩) hHeld ?_
               rotate_left
               · intro w1 hSw; (try dsimp only at hSw); go_simp <;> with_reducible rfl
               try simp only [Act.put, FA, FB, FC]
               refine FD (i := 6) (oi := ⟨some 54, _, _, _, _, _⟩) (v := ?_) rfl (by kernel_rfl) (by kernel_rfl) (by kernel_rfl) (fun _ _ _ h => h) (Or.inl ⟨by kernel_rfl, ?_⟩) hHeld ?_
               rotate_left
               · intro w1 hSw; (try dsimp only at hSw); go_simp <;> with_reducible rfl
               try simp only [Act.put, FA, FB, FC]
               refine FD (i := 7) (oi := ⟨some 55, _, _, _, _, _⟩) (v := ?_) rfl (by kernel_rfl) (by kernel_rfl) (by kernel_rfl) (fun _ _ _ h => h) (Or.inl ⟨by kernel_rfl, ?_⟩) hHeld ?_
               rotate_left
               · intro w1 hSw; (try dsimp only at hSw); go_simp <;> with_reducible rfl
               try simp only [Act.put, FA, FB, FC]
               refine FD (i := 8) (v := undef) rfl (by kernel_rfl) (by kernel_rfl) (by kernel_rfl) (fun _ _ _ h => h) (Or.inr ⟨by kernel_rfl, rfl⟩) hHeld ?_
               try simp only [Act.put, FA, FB, FC]
               refine FD (i := 9) (v := undef) rfl (by kernel_rfl) (by kernel_rfl) (by kernel_rfl) (fun _ _ _ h => h) (Or.inr ⟨by kernel_rfl, rfl⟩) hHeld ?_
               try simp only [Act.put, FA, FB, FC]
               refine FD (i := 10) (v := undef) rfl (by kernel_rfl) (by kernel_rfl) (by kernel_rfl) (fun _ _ _ h => h) (Or.inr ⟨by kernel_rfl, rfl⟩) hHeld ?_
               try simp only [Act.put, FA, FB, FC]
               refine FD (i := 11) (v := undef) rfl (by kernel_rfl) (by kernel_rfl) (by kernel_rfl) (fun _ _ _ h => h) (Or.inr ⟨by kernel_rfl, rfl⟩) hHeld ?_
               try simp only [Act.put, FA, FB, FC]
               refine FD (i := 12) (v := undef) rfl (by kernel_rfl) (by kernel_rfl) (by kernel_rfl) (fun _ _ _ h => h) (Or.inr ⟨by kernel_rfl, rfl⟩) hHeld ?_
               try simp only [Act.put, FA, FB, FC]
               refine FD (i := 13) (v := undef) rfl (by kernel_rfl) (by kernel_rfl) (by kernel_rfl) (fun _ _ _ h => h) (Or.inr ⟨by kernel_rfl, rfl⟩) hHeld ?_
               try simp only [Act.put, FA, FB, FC]
               refine FD (i := 14) (v := undef) rfl (by kernel_rfl) (by kernel_rfl) (by kernel_rfl) (fun _ _ _ h => h) (Or.inr ⟨by kernel_rfl, rfl⟩) hHeld ?_
               try simp only [Act.put, FA, FB, FC]
               refine FD (i := 15) (v := undef) rfl (by kernel_rfl) (by kernel_rfl) (by kernel_rfl) (fun _ _ _ h => h) (Or.inr ⟨by kernel_rfl, rfl⟩) hHeld ?_
               try simp only [Act.put, FA, FB, FC]
               refine FD (i := 16) (v := undef) rfl (by kernel_rfl) (by kernel_rfl) (by kernel_rfl) (fun _ _ _ h => h) (Or.inr ⟨by kernel_rfl, rfl⟩) hHeld ?_
               try simp only [Act.put, FA, FB, FC]
               refine FD (i := 17) (v := undef) rfl (by kernel_rfl) (by kernel_rfl) (by kernel_rfl) (fun _ _ _ h => h) (Or.inr ⟨by kernel_rfl, rfl⟩) hHeld ?_
               try simp only [Act.put, FA, FB, FC]
               refine FD (i := 18) (oi := ⟨some 66, _, _, _, _, _⟩) (v := ?_) rfl (by kernel_rfl) (by kernel_rfl) (by kernel_rfl) (fun _ _ _ h => h) (Or.inl ⟨by kernel_rfl, ?_⟩) hHeld ?_
               rotate_left
               · intro w1 hSw; (try dsimp only at hSw); go_simp <;> with_reducible rfl
               try simp only [Act.put, FA, FB, FC]
               refine FD (i := 20) (oi := ⟨some 68, _, _, _, _, _⟩) (v := ?_) rfl (by kernel_rfl) (by kernel_rfl) (by kernel_rfl) (fun _ _ _ h => h) (Or.inl ⟨by kernel_rfl, ?_⟩) hHeld ?_
               rotate_left
               · intro w1 hSw; (try dsimp only at hSw); go_simp <;> with_reducible rfl
               try simp only [Act.put, FA, FB, FC]
               refine FD (i := 21) (oi := ⟨some 69, _, _, _, _, _⟩) (v := ?_) rfl (by kernel_rfl) (by kernel_rfl) (by kernel_rfl) (fun _ _ _ h => h) (Or.inl ⟨by kernel_rfl, ?_⟩) hHeld ?_
               rotate_left
               · intro w1 hSw; (try dsimp only at hSw); go_simp <;> with_reducible rfl
               try simp only [Act.put, FA, FB, FC]
               refine FD (i := 22) (oi := ⟨some 70, _, _, _, _, _⟩) (v := ?_) rfl (by kernel_rfl) (by kernel_rfl) (by kernel_rfl) (fun _ _ _ h => h) (Or.inl ⟨by kernel_rfl, ?_⟩) hHeld ?_
               rotate_left
               · intro w1 hSw; (try dsimp only at hSw); go_simp <;> with_reducible rfl
               try simp only [Act.put, FA, FB, FC]
               refine FD (i := 23) (oi := ⟨some 71, _, _, _, _, _⟩) (v := ?_) rfl (by kernel_rfl) (by kernel_rfl) (by kernel_rfl) (fun _ _ _ h => h) (Or.inl ⟨by kernel_rfl, ?_⟩) hHeld ?_
               rotate_left
               · intro w1 hSw; (try dsimp only at hSw); go_simp <;> with_reducible rfl
               try simp only [Act.put, FA, FB, FC]
               refine FD (i := 24) (oi := ⟨some 72, _, _, _, _, _⟩) (v := ?_) rfl (by kernel_rfl) (by kernel_rfl) (by kernel_rfl) (fun _ _ _ h => h) (Or.inl ⟨by kernel_rfl, ?_⟩) hHeld ?_
               rotate_left
               · intro w1 hSw; (try dsimp only at hSw); go_simp <;> with_reducible rfl
               try simp only [Act.put, FA, FB, FC]
               refine FD (i := 25) (oi := ⟨some 73, _, _, _, _, _⟩) (v := ?_) rfl (by kernel_rfl) (by kernel_rfl) (by kernel_rfl) (fun _ _ _ h => h) (Or.inl ⟨by kernel_rfl, ?_⟩) hHeld ?_
               rotate_left
               · intro w1 hSw; (try dsimp only at hSw); go_simp <;> with_reducible rfl
               try simp only [Act.put, FA, FB, FC]
               refine FD (i := 27) (oi := ⟨some 75, _, _, _, _, _⟩) (v := ?_) rfl (by kernel_rfl) (by kernel_rfl) (by kernel_rfl) (fun _ _ _ h => h) (Or.inl ⟨by kernel_rfl, ?_⟩) hHeld ?_
               rotate_left
               · intro w1 hSw; (try dsimp only at hSw); go_simp <;> with_reducible rfl
               try simp only [Act.put, FA, FB, FC]
               refine FD (i := 28) (oi := ⟨some 76, _, _, _, _, _⟩) (v := ?_) rfl (by kernel_rfl) (by kernel_rfl) (by kernel_rfl) (fun _ _ _ h => h) (Or.inl ⟨by kernel_rfl, ?_⟩) hHeld ?_
               rotate_left
               · intro w1 hSw; (try dsimp only at hSw); go_simp <;> with_reducible rfl
               try simp only [Act.put, FA, FB, FC]
               refine FG (rs := [19]) (by kernel_rfl) (by simp) ?_
               refine FE rfl (fun K hK => ?_) FF
               go_simp
               go_at_call 60
               refine (when_any _ _ _).mono ?_
               rintro e w1 ⟨rfl, rfl⟩
               try go_simp
               refine hK.out _ _ ?_ (fun hHeld => ?_)
               · exact hHeld
               clear hK K
               try simp only [Act.put, FA, FB, FC]
               refine FG (rs := [26]) (by kernel_rfl) (by simp) ?_
               refine FE rfl (fun K hK => ?_) FF
               go_simp
               go_at_call 61
               refine (checkName_any _ _).mono ?_
               rintro e w1 ⟨rfl, hbn⟩
               try go_simp
               refine hK.out _ _ ?_ (fun hHeld => ?_)
               · exact ⟨keepC hHeld.1 hbn, keepC hHeld.2.1 hbn, keepC hHeld.2.2.1 hbn, keepC hHeld.2.2.2.1 hbn, keepC hHeld.2.2.2.2.1 hbn, keepC hHeld.2.2.2.2.2.1 hbn, hHeld.2.2.2.2.2.2.trans ((hbn).mono hHeld.2.2.2.2.2.2.size)⟩
               clear hK K
               try simp only [Act.put, FA, FB, FC]
               refine FD (i := 29) (oi := ⟨some 77, _, _, _, _, _⟩) (v := ?_) rfl (by kernel_rfl) (by kernel_rfl) (by kernel_rfl) (fun _ _ _ h => h) (Or.inl ⟨by kernel_rfl, ?_⟩) hHeld ?_
               rotate_left
               · intro w1 hSw; (try dsimp only at hSw); go_simp <;> with_reducible rfl
               try simp only [Act.put, FA, FB, FC]
               refine FD (i := 30) (v := undef) rfl (by kernel_rfl) (by kernel_rfl) (by kernel_rfl) (fun _ _ _ h => h) (Or.inr ⟨by kernel_rfl, rfl⟩) hHeld ?_
               try simp only [Act.put, FA, FB, FC]
               refine FD (i := 31) (v := undef) rfl (by kernel_rfl) (by kernel_rfl) (by kernel_rfl) (fun _ _ _ h => h) (Or.inr ⟨by kernel_rfl, rfl⟩) hHeld ?_
               try simp only [Act.put, FA, FB, FC]
               refine FD (i := 32) (v := undef) rfl (by kernel_rfl) (by kernel_rfl) (by kernel_rfl) (fun _ _ _ h => h) (Or.inr ⟨by kernel_rfl, rfl⟩) hHeld ?_
               try simp only [Act.put, FA, FB, FC]
               refine FD (i := 33) (v := undef) rfl (by kernel_rfl) (by kernel_rfl) (by kernel_rfl) (fun _ _ _ h => h) (Or.inr ⟨by kernel_rfl, rfl⟩) hHeld ?_
               try simp only [Act.put, FA, FB, FC]
               refine FD (i := 34) (v := undef) rfl (by kernel_rfl) (by kernel_rfl) (by kernel_rfl) (fun _ _ _ h => h) (Or.inr ⟨by kernel_rfl, rfl⟩) hHeld ?_
               try simp only [Act.put, FA, FB, FC]
               refine FD (i := 35) (v := undef) rfl (by kernel_rfl) (by kernel_rfl) (by kernel_rfl) (fun _ _ _ h => h) (Or.inr ⟨by kernel_rfl, rfl⟩) hHeld ?_
               try simp only [Act.put, FA, FB, FC]
               refine FD (i := 36) (v := undef) rfl (by kernel_rfl) (by kernel_rfl) (by kernel_rfl) (fun _ _ _ h => h) (Or.inr ⟨by kernel_rfl, rfl⟩) hHeld ?_
               try simp only [Act.put, FA, FB, FC]
               refine FD (i := 37) (v := undef) rfl (by kernel_rfl) (by kernel_rfl) (by kernel_rfl) (fun _ _ _ h => h) (Or.inr ⟨by kernel_rfl, rfl⟩) hHeld ?_
               try simp only [Act.put, FA, FB, FC]
               refine FD (i := 38) (v := undef) rfl (by kernel_rfl) (by kernel_rfl) (by kernel_rfl) (fun _ _ _ h => h) (Or.inr ⟨by kernel_rfl, rfl⟩) hHeld ?_
               try simp only [Act.put, FA, FB, FC]
               refine FD (i := 39) (v := undef) rfl (by kernel_rfl) (by kernel_rfl) (by kernel_rfl) (fun _ _ _ h => h) (Or.inr ⟨by kernel_rfl, rfl⟩) hHeld ?_
               try simp only [Act.put, FA, FB, FC]
               refine FD (i := 40) (v := undef) rfl (by kernel_rfl) (by kernel_rfl) (by kernel_rfl) (fun _ _ _ h => h) (Or.inr ⟨by kernel_rfl, rfl⟩) hHeld ?_
               try simp only [Act.put, FA, FB, FC]
               refine FD (i := 41) (v := undef) rfl (by kernel_rfl) (by kernel_rfl) (by kernel_rfl) (fun _ _ _ h => h) (Or.inr ⟨by kernel_rfl, rfl⟩) hHeld ?_
               try simp only [Act.put, FA, FB, FC]
               refine FD (i := 42) (v := undef) rfl (by kernel_rfl) (by kernel_rfl) (by kernel_rfl) (fun _ _ _ h => h) (Or.inr ⟨by kernel_rfl, rfl⟩) hHeld ?_
               try simp only [Act.put, FA, FB, FC]
               refine FD (i := 43) (v := undef) rfl (by kernel_rfl) (by kernel_rfl) (by kernel_rfl) (fun _ _ _ h => h) (Or.inr ⟨by kernel_rfl, rfl⟩) hHeld ?_
               try simp only [Act.put, FA, FB, FC]
               refine FD (i := 44) (v := undef) rfl (by kernel_rfl) (by kernel_rfl) (by kernel_rfl) (fun _ _ _ h => h) (Or.inr ⟨by kernel_rfl, rfl⟩) hHeld ?_
               try simp only [Act.put, FA, FB, FC]
               refine FD (i := 45) (oi := ⟨some 93, _, _, _, _, _⟩) (v := ?_) rfl (by kernel_rfl) (by kernel_rfl) (by kernel_rfl) (fun _ _ _ h => h) (Or.inl ⟨by kernel_rfl, ?_⟩) hHeld ?_
               rotate_left
               · intro w1 hSw; (try dsimp only at hSw); go_simp <;> with_reducible rfl
               try simp only [Act.put, FA, FB, FC]
               refine FG (rs := [46]) (by kernel_rfl) (by simp) ?_
               refine FE rfl (fun K hK => ?_) FF
               go_simp
               go_at_call 60
               refine (when_any _ _ _).mono ?_
               rintro e w1 ⟨rfl, rfl⟩
               try go_simp
               refine hK.out _ _ ?_ (fun hHeld => ?_)
               · exact hHeld
               clear hK K
               try simp only [Act.put, FA, FB, FC]
               refine FG (rs := [47]) (by kernel_rfl) (by simp) ?_
               refine FE rfl (fun K hK => ?_) FF
               go_simp
               refine hK.out _ _ ?_ (fun hHeld => ?_)
               · exact ⟨keepC hHeld.1 ((Below.refl _ _).alloc (Nat.le_refl _) _), keepC hHeld.2.1 ((Below.refl _ _).alloc (Nat.le_refl _) _), keepC hHeld.2.2.1 ((Below.refl _ _).alloc (Nat.le_refl _) _), keepC hHeld.2.2.2.1 ((Below.refl _ _).alloc (Nat.le_refl _) _), keepC hHeld.2.2.2.2.1 ((Below.refl _ _).alloc (Nat.le_refl _) _), keepC hHeld.2.2.2.2.2.1 ((Below.refl _ _).alloc (Nat.le_refl _) _), hHeld.2.2.2.2.2.2.trans ((((Below.refl _ _).alloc (Nat.le_refl _) _)).mono hHeld.2.2.2.2.2.2.size)⟩
               clear hK K
               try simp only [Act.put, FA, FB, FC]
               refine FG (rs := [48]) (by kernel_rfl) (by simp) ?_
               refine FE rfl (fun K hK => ?_) FF
               go_simp
               go_at_call 56
               refine (first_any _ _ _ [whenI true 10, whenI (!nameL nm.data.toList) 8, whenI false 11] _ ?_ rfl (by simp)).mono ?_
               · exact Rd.new _ _ _ _ (by simp)
               rintro e w1 ⟨rfl, rfl⟩
               rw [← HEK.out]
               try go_simp
               refine hK.out _ _ ?_ (fun hHeld => ?_)
               · exact hHeld
               clear hK K
               try simp only [Act.put, FA, FB, FC]
               refine FD (i := 49) (oi := ⟨some 6, _, _, _, _, _⟩) (v := ?_) rfl (by kernel_rfl) (by kernel_rfl) (by kernel_rfl) (fun _ _ _ h => h) (Or.inl ⟨by kernel_rfl, ?_⟩) hHeld ?_
               rotate_left
               · intro w1 hSw; (try dsimp only at hSw); go_simp <;> with_reducible rfl
               try simp only [Act.put, FA, FB, FC]
               refine wpAnyH_done (by kernel_rfl) ?_ _
               have R4 := Lib.hid (R3.out.old hHeld.2.2.2.2.2.2)
               have HBW4 := Lib.hid (HBW3.out.trans (hHeld.2.2.2.2.2.2.mono HBW3.out.size))
               clear hHeld
               by_cases hE0 : EK = 0
               · subst hE0
                 go_wp2
                 go_roundw
                 case rel => exact ⟨1, by omega, by go_num, NEXT.out.1 rfl, R4, HBW4⟩
                 case measure => simp [intOf]; omega
               · have hne : (EK != 0) = true := by simpa using hE0
                 have HF := Lib.hid (NEXT.out.2 hE0)
                 clear hE0
                 go_wp2
                 go_ret
                 exact ⟨ret_int HF.out, HBW4.out⟩
             · have hd1 : decide (ix < 0) = false := decide_eq_false hneg
               have HEK : Hid (EK = firstI [whenI (decide ((xs.length : Int) ≤ ix)) 10, whenI (!nameL nm.data.toList) 8, whenI false 11]) := by
                unfold Hid; rw [hEK, errAt, hgx]
                simp only [Nat.lt_irrefl, decide_false, Bool.false_and]
                simp only [hd1, Bool.true_or, Bool.false_or]
               clear hEK hgx
               go_upto_region 12 with fail
               refine wp_region_held_drew (S := fun w' => w'.cell? ⟨w.heap.size, 0, none⟩ = some (.int .i64 st) ∧ w'.cell? ⟨w.heap.size, 1, none⟩ = some (.int .i64 sp) ∧ w'.cell? ⟨w.heap.size, 2, none⟩ = some (.slice A xs.length c) ∧ w'.cell? ⟨w.heap.size, 3, none⟩ = some (.slice (some ⟨b, off, none⟩) ms.length d) ∧ w'.cell? ⟨b, off, none⟩ = some (.int .i64 ix) ∧ w'.cell? ⟨b, off + 1, none⟩ = some (.string nm) ∧ Below wr.heap.size wr w') (by kernel_rfl) ?_ (fun hHeld => ?_)
               · exact ⟨R3.out.cell 0, R3.out.cell 1, R3.out.cell 2, R3.out.cell 3, HC1.out, HC2.out, (Below.refl _ _).drew⟩
               refine FD (i := 0) (oi := ⟨some 48, _, _, _, _, _⟩) (v := ?_) rfl (by kernel_rfl) (by kernel_rfl) (by kernel_rfl) (fun _ _ _ h => h) (Or.inl ⟨by kernel_rfl, ?_⟩) hHeld ?_
               rotate_left
               · intro w1 hSw; (try dsimp only at hSw); go_simp <;> with_reducible rfl
               try simp only [Act.put, FA, FB, FC]
               refine FD (i := 1) (oi := ⟨some 49, _, _, _, _, _⟩) (v := ?_) rfl (by kernel_rfl) (by kernel_rfl) (by kernel_rfl) (fun _ _ _ h => h) (Or.inl ⟨by kernel_rfl, ?_⟩) hHeld ?_
               rotate_left
               · intro w1 hSw; (try dsimp only at hSw); go_simp <;> with_reducible rfl
               try simp only [Act.put, FA, FB, FC]
               refine FD (i := 2) (oi := ⟨some 50, _, _, _, _, _⟩) (v := ?_) rfl (by kernel_rfl) (by kernel_rfl) (by kernel_rfl) (fun _ _ _ h => h) (Or.inl ⟨by kernel_rfl, ?_⟩) hHeld ?_
               rotate_left
               · intro w1 hSw; (try dsimp only at hSw); go_simp <;> with_reducible rfl
               try simp only [Act.put, FA, FB, FC]
               refine FD (i := 3) (oi := ⟨some 51, _, _, _, _, _⟩) (v := ?_) rfl (by kernel_rfl) (by kernel_rfl) (by kernel_rfl) (fun _ _ _ h => h) (Or.inl ⟨by kernel_rfl, ?_⟩) hHeld ?_
               rotate_left
               · intro w1 hSw; (try dsimp only at hSw); go_simp <;> with_reducible rfl
               try simp only [Act.put, FA, FB, FC]
               refine FD (i := 4) (oi := ⟨some 52, _, _, _, _, _⟩) (v := ?_) rfl (by kernel_rfl) (by kernel_rfl) (by kernel_rfl) (fun _ _ _ h => h) (Or.inl ⟨by kernel_rfl, ?_⟩) hHeld ?_
               rotate_left
               · intro w1 hSw; (try dsimp only at hSw); go_simp <;> with_reducible rfl
               try simp only [Act.put, FA, FB, FC]
               refine FD (i := 5) (oi := ⟨some 53, _, _, _, _, _⟩) (v := ?_) rfl (by kernel_rfl) (by kernel_rfl) (by kernel_rfl) (fun _ _ _ h => h) (Or.inl ⟨by kernel_rfl, ?_⟩) hHeld ?_
               rotate_left
               · intro w1 hSw; (try dsimp only at hSw); go_simp <;> with_reducible rfl
               try simp only [Act.put, FA, FB, FC]
               refine FD (i := 6) (oi := ⟨some 54, _, _, _, _, _⟩) (v := ?_) rfl (by kernel_rfl) (by kernel_rfl) (by kernel_rfl) (fun _ _ _ h => h) (Or.inl ⟨by kernel_rfl, ?_⟩) hHeld ?_
               rotate_left
               · intro w1 hSw; (try dsimp only at hSw); go_simp <;> with_reducible rfl
               try simp only [Act.put, FA, FB, FC]
               refine FD (i := 7) (oi := ⟨some 55, _, _, _, _, _⟩) (v := ?_) rfl (by kernel_rfl) (by kernel_rfl) (by kernel_rfl) (fun _ _ _ h => h) (Or.inl ⟨by kernel_rfl, ?_⟩) hHeld ?_
               rotate_left
               · intro w1 hSw; (try dsimp only at hSw); go_simp <;> with_reducible rfl
               try simp only [Act.put, FA, FB, FC]
               refine FD (i := 8) (oi := ⟨some 56, _, _, _, _, _⟩) (v := ?_) rfl (by kernel_rfl) (by kernel_rfl) (by kernel_rfl) (fun _ _ _ h => h) (Or.inl ⟨by kernel_rfl, ?_⟩) hHeld ?_
               rotate_left
               · intro w1 hSw; (try dsimp only at hSw); go_simp <;> with_reducible rfl
               try simp only [Act.put, FA, FB, FC]
               refine FD (i := 9) (oi := ⟨some 57, _, _, _, _, _⟩) (v := ?_) rfl (by kernel_rfl) (by kernel_rfl) (by kernel_rfl) (fun _ _ _ h => h) (Or.inl ⟨by kernel_rfl, ?_⟩) hHeld ?_
               rotate_left
               · intro w1 hSw; (try dsimp only at hSw); go_simp <;> with_reducible rfl
               try simp only [Act.put, FA, FB, FC]
               refine FD (i := 10) (oi := ⟨some 58, _, _, _, _, _⟩) (v := ?_) rfl (by kernel_rfl) (by kernel_rfl) (by kernel_rfl) (fun _ _ _ h => h) (Or.inl ⟨by kernel_rfl, ?_⟩) hHeld ?_
               rotate_left
               · intro w1 hSw; (try dsimp only at hSw); go_simp <;> with_reducible rfl
               try simp only [Act.put, FA, FB, FC]
               refine FD (i := 11) (oi := ⟨some 59, _, _, _, _, _⟩) (v := ?_) rfl (by kernel_rfl) (by kernel_rfl) (by kernel_rfl) (fun _ _ _ h => h) (Or.inl ⟨by kernel_rfl, ?_⟩) hHeld ?_
               rotate_left
               · intro w1 hSw; (try dsimp only at hSw); go_simp <;> with_reducible rfl
               try simp only [Act.put, FA, FB, FC]
               refine FD (i := 12) (oi := ⟨some 60, _, _, _, _, _⟩) (v := ?_) rfl (by kernel_rfl) (by kernel_rfl) (by kernel_rfl) (fun _ _ _ h => h) (Or.inl ⟨by kernel_rfl, ?_⟩) hHeld ?_
               rotate_left
               · intro w1 hSw; (try dsimp only at hSw); go_simp <;> with_reducible rfl
               try simp only [Act.put, FA, FB, FC]
               refine FD (i := 13) (oi := ⟨some 61, _, _, _, _, _⟩) (v := ?_) rfl (by kernel_rfl) (by kernel_rfl) (by kernel_rfl) (fun _ _ _ h => h) (Or.inl ⟨by kernel_rfl, ?_⟩) hHeld ?_
               rotate_left
               · intro w1 hSw; (try dsimp only at hSw); go_simp <;> with_reducible rfl
               try simp only [Act.put, FA, FB, FC]
               refine FD (i := 14) (oi := ⟨some 62, _, _, _, _, _⟩) (v := ?_) rfl (by kernel_rfl) (by kernel_rfl) (by kernel_rfl) (fun _ _ _ h => h) (Or.inl ⟨by kernel_rfl, ?_⟩) hHeld ?_
               rotate_left
               · intro w1 hSw; (try dsimp only at hSw); go_simp <;> with_reducible rfl
               try simp only [Act.put, FA, FB, FC]
               refine FD (i := 15) (oi := ⟨some 63, _, _, _, _, _⟩) (v := ?_) rfl (by kernel_rfl) (by kernel_rfl) (by kernel_rfl) (fun _ _ _ h => h) (Or.inl ⟨by kernel_rfl, ?_⟩) hHeld ?_
               rotate_left
               · intro w1 hSw; (try dsimp only at hSw); go_simp <;> with_reducible rfl
               try simp only [Act.put, FA, FB, FC]
               refine FD (i := 16) (oi := ⟨some 64, _, _, _, _, _⟩) (v := ?_) rfl (by kernel_rfl) (by kernel_rfl) (by kernel_rfl) (fun _ _ _ h => h) (Or.inl ⟨by kernel_rfl, ?_⟩) hHeld ?_
               rotate_left
               · intro w1 hSw; (try dsimp only at hSw); go_simp <;> with_reducible rfl
               try simp only [Act.put, FA, FB, FC]
               refine FD (i := 17) (oi := ⟨some 65, _, _, _, _, _⟩) (v := ?_) rfl (by kernel_rfl) (by kernel_rfl) (by kernel_rfl) (fun _ _ _ h => h) (Or.inl ⟨by kernel_rfl, ?_⟩) hHeld ?_
               rotate_left
               · intro w1 hSw; (try dsimp only at hSw); go_simp <;> with_reducible rfl
               try simp only [Act.put, FA, FB, FC]
               refine FD (i := 18) (oi := ⟨some 66, _, _, _, _, _⟩) (v := ?_) rfl (by kernel_rfl) (by kernel_rfl) (by kernel_rfl) (fun _ _ _ h => h) (Or.inl ⟨by kernel_rfl, ?_⟩) hHeld ?_
               rotate_left
               · intro w1 hSw; (try dsimp only at hSw); go_simp <;> with_reducible rfl
               try simp only [Act.put, FA, FB, FC]
               refine FD (i := 20) (oi := ⟨some 68, _, _, _, _, _⟩) (v := ?_) rfl (by kernel_rfl) (by kernel_rfl) (by kernel_rfl) (fun _ _ _ h => h) (Or.inl ⟨by kernel_rfl, ?_⟩) hHeld ?_
               rotate_left
               · intro w1 hSw; (try dsimp only at hSw); go_simp <;> with_reducible rfl
               try simp only [Act.put, FA, FB, FC]
               refine FD (i := 21) (oi := ⟨some 69, _, _, _, _, _⟩) (v := ?_) rfl (by kernel_rfl) (by kernel_rfl) (by kernel_rfl) (fun _ _ _ h => h) (Or.inl ⟨by kernel_rfl, ?_⟩) hHeld ?_
               rotate_left
               · intro w1 hSw; (try dsimp only at hSw); go_simp <;> with_reducible rfl
               try simp only [Act.put, FA, FB, FC]
               refine FD (i := 22) (oi := ⟨some 70, _, _, _, _, _⟩) (v := ?_) rfl (by kernel_rfl) (by kernel_rfl) (by kernel_rfl) (fun _ _ _ h => h) (Or.inl ⟨by kernel_rfl, ?_⟩) hHeld ?_
               rotate_left
               · intro w1 hSw; (try dsimp only at hSw); go_simp <;> with_reducible rfl
               try simp only [Act.put, FA, FB, FC]
               refine FD (i := 23) (oi := ⟨some 71, _, _, _, _, _⟩) (v := ?_) rfl (by kernel_rfl) (by kernel_rfl) (by kernel_rfl) (fun _ _ _ h => h) (Or.inl ⟨by kernel_rfl, ?_⟩) hHeld ?_
               rotate_left
               · intro w1 hSw; (try dsimp only at hSw); go_simp <;> with_reducible rfl
               try simp only [Act.put, FA, FB, FC]
               refine FD (i := 24) (oi := ⟨some 72, _, _, _, _, _⟩) (v := ?_) rfl (by kernel_rfl) (by kernel_rfl) (by kernel_rfl) (fun _ _ _ h => h) (Or.inl ⟨by kernel_rfl, ?_⟩) hHeld ?_
               rotate_left
               · intro w1 hSw; (try dsimp only at hSw); go_simp <;> with_reducible rfl
               try simp only [Act.put, FA, FB, FC]
               refine FD (i := 25) (oi := ⟨some 73, _, _, _, _, _⟩) (v := ?_) rfl (by kernel_rfl) (by kernel_rfl) (by kernel_rfl) (fun _ _ _ h => h) (Or.inl ⟨by kernel_rfl, ?_⟩) hHeld ?_
               rotate_left
               · intro w1 hSw; (try dsimp only at hSw); go_simp <;> with_reducible rfl
               try simp only [Act.put, FA, FB, FC]
               refine FD (i := 27) (oi := ⟨some 75, _, _, _, _, _⟩) (v := ?_) rfl (by kernel_rfl) (by kernel_rfl) (by kernel_rfl) (fun _ _ _ h => h) (Or.inl ⟨by kernel_rfl, ?_⟩) hHeld ?_
               rotate_left
               · intro w1 hSw; (try dsimp only at hSw); go_simp <;> with_reducible rfl
               try simp only [Act.put, FA, FB, FC]
               refine FD (i := 28) (oi := ⟨some 76, _, _, _, _, _⟩) (v := ?_) rfl (by kernel_rfl) (by kernel_rfl) (by kernel_rfl) (fun _ _ _ h => h) (Or.inl ⟨by kernel_rfl, ?_⟩) hHeld ?_
               rotate_left
               · intro w1 hSw; (try dsimp only at hSw); go_simp <;> with_reducible rfl
               try simp only [Act.put, FA, FB, FC]
               refine FG (rs := [19]) (by kernel_rfl) (by simp) ?_
               refine FE rfl (fun K hK => ?_) FF
               go_simp
               go_at_call 60
               refine (when_any _ _ _).mono ?_
               rintro e w1 ⟨rfl, rfl⟩
               try go_simp
               refine hK.out _ _ ?_ (fun hHeld => ?_)
               · exact hHeld
               clear hK K
               try simp only [Act.put, FA, FB, FC]
               refine FG (rs := [26]) (by kernel_rfl) (by simp) ?_
               refine FE rfl (fun K hK => ?_) FF
               go_simp
               go_at_call 61
               refine (checkName_any _ _).mono ?_
               rintro e w1 ⟨rfl, hbn⟩
               try go_simp
               refine hK.out _ _ ?_ (fun hHeld => ?_)
               · exact ⟨keepC hHeld.1 hbn, keepC hHeld.2.1 hbn, keepC hHeld.2.2.1 hbn, keepC hHeld.2.2.2.1 hbn, keepC hHeld.2.2.2.2.1 hbn, keepC hHeld.2.2.2.2.2.1 hbn, hHeld.2.2.2.2.2.2.trans ((hbn).mono hHeld.2.2.2.2.2.2.size)⟩
               clear hK K
               try simp only [Act.put, FA, FB, FC]
               refine FD (i := 29) (oi := ⟨some 77, _, _, _, _, _⟩) (v := ?_) rfl (by kernel_rfl) (by kernel_rfl) (by kernel_rfl) (fun _ _ _ h => h) (Or.inl ⟨by kernel_rfl, ?_⟩) hHeld ?_
               rotate_left
               · intro w1 hSw; (try dsimp only at hSw); go_simp <;> with_reducible rfl
               try simp only [Act.put, FA, FB, FC]
               refine FD (i := 30) (v := undef) rfl (by kernel_rfl) (by kernel_rfl) (by kernel_rfl) (fun _ _ _ h => h) (Or.inr ⟨by kernel_rfl, rfl⟩) hHeld ?_
               try simp only [Act.put, FA, FB, FC]
               refine FD (i := 31) (v := undef) rfl (by kernel_rfl) (by kernel_rfl) (by kernel_rfl) (fun _ _ _ h => h) (Or.inr ⟨by kernel_rfl, rfl⟩) hHeld ?_
               try simp only [Act.put, FA, FB, FC]
               refine FD (i := 32) (v := undef) rfl (by kernel_rfl) (by kernel_rfl) (by kernel_rfl) (fun _ _ _ h => h) (Or.inr ⟨by kernel_rfl, rfl⟩) hHeld ?_
               try simp only [Act.put, FA, FB, FC]
               refine FD (i := 33) (v := undef) rfl (by kernel_rfl) (by kernel_rfl) (by kernel_rfl) (fun _ _ _ h => h) (Or.inr ⟨by kernel_rfl, rfl⟩) hHeld ?_
               try simp only [Act.put, FA, FB, FC]
               refine FD (i := 34) (v := undef) rfl (by kernel_rfl) (by kernel_rfl) (by kernel_rfl) (fun _ _ _ h => h) (Or.inr ⟨by kernel_rfl, rfl⟩) hHeld ?_
               try simp only [Act.put, FA, FB, FC]
               refine FD (i := 35) (v := undef) rfl (by kernel_rfl) (by kernel_rfl) (by kernel_rfl) (fun _ _ _ h => h) (Or.inr ⟨by kernel_rfl, rfl⟩) hHeld ?_
               try simp only [Act.put, FA, FB, FC]
               refine FD (i := 36) (v := undef) rfl (by kernel_rfl) (by kernel_rfl) (by kernel_rfl) (fun _ _ _ h => h) (Or.inr ⟨by kernel_rfl, rfl⟩) hHeld ?_
               try simp only [Act.put, FA, FB, FC]
               refine FD (i := 37) (v := undef) rfl (by kernel_rfl) (by kernel_rfl) (by kernel_rfl) (fun _ _ _ h => h) (Or.inr ⟨by kernel_rfl, rfl⟩) hHeld ?_
               try simp only [Act.put, FA, FB, FC]
               refine FD (i := 38) (v := undef) rfl (by kernel_rfl) (by kernel_rfl) (by kernel_rfl) (fun _ _ _ h => h) (Or.inr ⟨by kernel_rfl, rfl⟩) hHeld ?_
               try simp only [Act.put, FA, FB, FC]
               refine FD (i := 39) (v := undef) rfl (by kernel_rfl) (by kernel_rfl) (by kernel_rfl) (fun _ _ _ h => h) (Or.inr ⟨by kernel_rfl, rfl⟩) hHeld ?_
               try simp only [Act.put, FA, FB, FC]
               refine FD (i := 40) (v := undef) rfl (by kernel_rfl) (by kernel_rfl) (by kernel_rfl) (fun _ _ _ h => h) (Or.inr ⟨by kernel_rfl, rfl⟩) hHeld ?_
               try simp only [Act.put, FA, FB, FC]
               refine FD (i := 41) (v := undef) rfl (by kernel_rfl) (by kernel_rfl) (by kernel_rfl) (fun _ _ _ h => h) (Or.inr ⟨by kernel_rfl, rfl⟩) hHeld ?_
               try simp only [Act.put, FA, FB, FC]
               refine FD (i := 42) (v := undef) rfl (by kernel_rfl) (by kernel_rfl) (by kernel_rfl) (fun _ _ _ h => h) (Or.inr ⟨by kernel_rfl, rfl⟩) hHeld ?_
               try simp only [Act.put, FA, FB, FC]
               refine FD (i := 43) (v := undef) rfl (by kernel_rfl) (by kernel_rfl) (by kernel_rfl) (fun _ _ _ h => h) (Or.inr ⟨by kernel_rfl, rfl⟩) hHeld ?_
               try simp only [Act.put, FA, FB, FC]
               refine FD (i := 44) (v := undef) rfl (by kernel_rfl) (by kernel_rfl) (by kernel_rfl) (fun _ _ _ h => h) (Or.inr ⟨by kernel_rfl, rfl⟩) hHeld ?_
               try simp only [Act.put, FA, FB, FC]
               refine FD (i := 45) (oi := ⟨some 93, _, _, _, _, _⟩) (v := ?_) rfl (by kernel_rfl) (by kernel_rfl) (by kernel_rfl) (fun _ _ _ h => h) (Or.inl ⟨by kernel_rfl, ?_⟩) hHeld ?_
               rotate_left
               · intro w1 hSw; (try dsimp only at hSw); go_simp <;> with_reducible rfl
               try simp only [Act.put, FA, FB, FC]
               refine FG (rs := [46]) (by kernel_rfl) (by simp) ?_
               refine FE rfl (fun K hK => ?_) FF
               go_simp
               go_at_call 60
               refine (when_any _ _ _).mono ?_
               rintro e w1 ⟨rfl, rfl⟩
               try go_simp
               refine hK.out _ _ ?_ (fun hHeld => ?_)
               · exact hHeld
               clear hK K
               try simp only [Act.put, FA, FB, FC]
               refine FG (rs := [47]) (by kernel_rfl) (by simp) ?_
               refine FE rfl (fun K hK => ?_) FF
               go_simp
               refine hK.out _ _ ?_ (fun hHeld => ?_)
               · exact ⟨keepC hHeld.1 ((Below.refl _ _).alloc (Nat.le_refl _) _), keepC hHeld.2.1 ((Below.refl _ _).alloc (Nat.le_refl _) _), keepC hHeld.2.2.1 ((Below.refl _ _).alloc (Nat.le_refl _) _), keepC hHeld.2.2.2.1 ((Below.refl _ _).alloc (Nat.le_refl _) _), keepC hHeld.2.2.2.2.1 ((Below.refl _ _).alloc (Nat.le_refl _) _), keepC hHeld.2.2.2.2.2.1 ((Below.refl _ _).alloc (Nat.le_refl _) _), hHeld.2.2.2.2.2.2.trans ((((Below.refl _ _).alloc (Nat.le_refl _) _)).mono hHeld.2.2.2.2.2.2.size)⟩
               clear hK K
               try simp only [Act.put, FA, FB, FC]
               refine FG (rs := [48]) (by kernel_rfl) (by simp) ?_
               refine FE rfl (fun K hK => ?_) FF
               go_simp
               go_at_call 56
               refine (first_any _ _ _ [whenI (decide ((xs.length : Int) ≤ ix)) 10, whenI (!nameL nm.data.toList) 8, whenI false 11] _ ?_ rfl (by simp)).mono ?_
               · exact Rd.new _ _ _ _ (by simp)
               rintro e w1 ⟨rfl, rfl⟩
               rw [← HEK.out]
               try go_simp
               refine hK.out _ _ ?_ (fun hHeld => ?_)
               · exact hHeld
               clear hK K
               try simp only [Act.put, FA, FB, FC]
               refine FD (i := 49) (oi := ⟨some 6, _, _, _, _, _⟩) (v := ?_) rfl (by kernel_rfl) (by kernel_rfl) (by kernel_rfl) (fun _ _ _ h => h) (Or.inl ⟨by kernel_rfl, ?_⟩) hHeld ?_
               rotate_left
               · intro w1 hSw; (try dsimp only at hSw); go_simp <;> with_reducible rfl
               try simp only [Act.put, FA, FB, FC]
               refine wpAnyH_done (by kernel_rfl) ?_ _
               have R4 := Lib.hid (R3.out.old hHeld.2.2.2.2.2.2)
               have HBW4 := Lib.hid (HBW3.out.trans (hHeld.2.2.2.2.2.2.mono HBW3.out.size))
               clear hHeld
               by_cases hE0 : EK = 0
               · subst hE0
                 go_wp2
                 go_roundw
                 case rel => exact ⟨1, by omega, by go_num, NEXT.out.1 rfl, R4, HBW4⟩
                 case measure => simp [intOf]; omega
               · have hne : (EK != 0) = true := by simpa using hE0
                 have HF := Lib.hid (NEXT.out.2 hE0)
                 clear hE0
                 go_wp2
                 go_ret
                 exact ⟨ret_int HF.out, HBW4.out⟩
           · obtain ⟨j, hkj⟩ : ∃ j : Nat, k = j + 1 := ⟨k - 1, by omega⟩
             have hjl : j < ms.length := by omega
             obtain ⟨b', off', hAb', hc3, -⟩ := Rd.mark (HB.out _ HBW3.out) hjl
             cases hAb'
             have hgy : ms.getD j (0, ByteArray.empty) = ms[j] := by simp [List.getD, List.getElem?_eq_getElem hjl]
             obtain ⟨iy, hiy⟩ : ∃ iy, iy = ms[j].1 := ⟨_, rfl⟩
             have hgy : (ms.getD (k - 1) (0, ByteArray.empty)).1 = iy := by rw [show k - 1 = j by omega, hgy, hiy]
             rw [← hiy] at hc3
             have HC3 := Lib.hid hc3
             have hk1 : (k : Int) - 1 = (j : Int) := by omega
             have hk2 : 0 < k := by omega
             have hw : IntKind.i64.wrap (j : Int) = (j : Int) := IntWalk.i64_in _ (by omega)
             have hmx : (if 0 < j then (j : Int) else 0) = (j : Int) := by split <;> omega
             have hkd : decide (0 < k) = true := decide_eq_true (by omega)
             clear hiy hc3 hkj hk0
             by_cases hneg : ix < 0
             · have hd1 : decide (ix < 0) = true := decide_eq_true hneg
               have HEK : Hid (EK = firstI [whenI true 10, whenI (!nameL nm.data.toList) 8, whenI (decide (ix ≤ iy)) 11]) := by
                unfold Hid; rw [hEK, errAt, hgx]
                simp only [hgy, hkd, Bool.true_and]
                rw [show (!decide (iy < ix)) = decide (ix ≤ iy) by rw [← decide_not]; congr 1; exact propext ⟨fun h => by omega, fun h => by omega⟩]
                simp only [hd1, Bool.true_or, Bool.false_or]
               clear hEK hgx hgy hkd
               go_upto_region 12 with fail
               refine wp_region_held_drew (S := fun w' => w'.cell? ⟨w.heap.size, 0, none⟩ = some (.int .i64 st) ∧ w'.cell? ⟨w.heap.size, 1, none⟩ = some (.int .i64 sp) ∧ w'.cell? ⟨w.heap.size, 2, none⟩ = some (.slice A xs.length c) ∧ w'.cell? ⟨w.heap.size, 3, none⟩ = some (.slice (some ⟨b, off, none⟩) ms.length d) ∧ w'.cell? ⟨b, off + k * 2, none⟩ = some (.int .i64 ix) ∧ w'.cell? ⟨b, off + k * 2 + 1, none⟩ = some (.string nm) ∧ w'.cell? ⟨b, off + j * 2, none⟩ = some (.int .i64 iy) ∧ Below wr.heap.size wr w') (by kernel_rfl) ?_ (fun hHeld => ?_)
               · exact ⟨R3.out.cell 0, R3.out.cell 1, R3.out.cell 2, R3.out.cell 3, HC1.out, HC2.out, HC3.out, (Below.refl _ _).drew⟩
               refine FD (i := 0) (oi := ⟨some 48, _, _, _, _, _⟩) (v := ?_) rfl (by kernel_rfl) (by kernel_rfl) (by kernel_rfl) (fun _ _ _ h => h) (Or.inl ⟨by kernel_rfl, ?_⟩) hHeld ?_
               rotate_left
               · intro w1 hSw; (try dsimp only at hSw); go_simp <;> with_reducible rfl
               try simp only [Act.put, FA, FB, FC]
               refine FD (i := 1) (oi := ⟨some 49, _, _, _, _, _⟩) (v := ?_) rfl (by kernel_rfl) (by kernel_rfl) (by kernel_rfl) (fun _ _ _ h => h) (Or.inl ⟨by kernel_rfl, ?_⟩) hHeld ?_
               rotate_left
               · intro w1 hSw; (try dsimp only at hSw); go_simp <;> with_reducible rfl
               try simp only [Act.put, FA, FB, FC]
               refine FD (i := 2) (oi := ⟨some 50, _, _, _, _, _⟩) (v := ?_) rfl (by kernel_rfl) (by kernel_rfl) (by kernel_rfl) (fun _ _ _ h => h) (Or.inl ⟨by kernel_rfl, ?_⟩) hHeld ?_
               rotate_left
               · intro w1 hSw; (try dsimp only at hSw); go_simp <;> with_reducible rfl
               try simp only [Act.put, FA, FB, FC]
               refine FD (i := 3) (oi := ⟨some 51, _, _, _, _, _⟩) (v := ?_) rfl (by kernel_rfl) (by kernel_rfl) (by kernel_rfl) (fun _ _ _ h => h) (Or.inl ⟨by kernel_rfl, ?_⟩) hHeld ?_
               rotate_left
               · intro w1 hSw; (try dsimp only at hSw); go_simp <;> with_reducible rfl
               try simp only [Act.put, FA, FB, FC]
               refine FD (i := 4) (oi := ⟨some 52, _, _, _, _, _⟩) (v := ?_) rfl (by kernel_rfl) (by kernel_rfl) (by kernel_rfl) (fun _ _ _ h => h) (Or.inl ⟨by kernel_rfl, ?_⟩) hHeld ?_
               rotate_left
               · intro w1 hSw; (try dsimp only at hSw); go_simp <;> with_reducible rfl
               try simp only [Act.put, FA, FB, FC]
               refine FD (i := 5) (oi := ⟨some 53, _, _, _, _, _⟩) (v := ?_) rfl (by kernel_rfl) (by kernel_rfl) (by kernel_rfl) (fun _ _ _ h => h) (Or.inl ⟨by kernel_rfl, ?_⟩) hHeld ?_
               rotate_left
               · intro w1 hSw; (try dsimp only at hSw); go_simp <;> with_reducible rfl
               try simp only [Act.put, FA, FB, FC]
               refine FD (i := 6) (oi := ⟨some 54, _, _, _, _, _⟩) (v := ?_) rfl (by kernel_rfl) (by kernel_rfl) (by kernel_rfl) (fun _ _ _ h => h) (Or.inl ⟨by kernel_rfl, ?_⟩) hHeld ?_
               rotate_left
               · intro w1 hSw; (try dsimp only at hSw); go_simp <;> with_reducible rfl
               try simp only [Act.put, FA, FB, FC]
               refine FD (i := 7) (oi := ⟨some 55, _, _, _, _, _⟩) (v := ?_) rfl (by kernel_rfl) (by kernel_rfl) (by kernel_rfl) (fun _ _ _ h => h) (Or.inl ⟨by kernel_rfl, ?_⟩) hHeld ?_
               rotate_left
               · intro w1 hSw; (try dsimp only at hSw); go_simp <;> with_reducible rfl
               try simp only [Act.put, FA, FB, FC]
               refine FD (i := 8) (v := undef) rfl (by kernel_rfl) (by kernel_rfl) (by kernel_rfl) (fun _ _ _ h => h) (Or.inr ⟨by kernel_rfl, rfl⟩) hHeld ?_
               try simp only [Act.put, FA, FB, FC]
               refine FD (i := 9) (v := undef) rfl (by kernel_rfl) (by kernel_rfl) (by kernel_rfl) (fun _ _ _ h => h) (Or.inr ⟨by kernel_rfl, rfl⟩) hHeld ?_
               try simp only [Act.put, FA, FB, FC]
               refine FD (i := 10) (v := undef) rfl (by kernel_rfl) (by kernel_rfl) (by kernel_rfl) (fun _ _ _ h => h) (Or.inr ⟨by kernel_rfl, rfl⟩) hHeld ?_
               try simp only [Act.put, FA, FB, FC]
               refine FD (i := 11) (v := undef) rfl (by kernel_rfl) (by kernel_rfl) (by kernel_rfl) (fun _ _ _ h => h) (Or.inr ⟨by kernel_rfl, rfl⟩) hHeld ?_
               try simp only [Act.put, FA, FB, FC]
               refine FD (i := 12) (v := undef) rfl (by kernel_rfl) (by kernel_rfl) (by kernel_rfl) (fun _ _ _ h => h) (Or.inr ⟨by kernel_rfl, rfl⟩) hHeld ?_
               try simp only [Act.put, FA, FB, FC]
               refine FD (i := 13) (v := undef) rfl (by kernel_rfl) (by kernel_rfl) (by kernel_rfl) (fun _ _ _ h => h) (Or.inr ⟨by kernel_rfl, rfl⟩) hHeld ?_
               try simp only [Act.put, FA, FB, FC]
               refine FD (i := 14) (v := undef) rfl (by kernel_rfl) (by kernel_rfl) (by kernel_rfl) (fun _ _ _ h => h) (Or.inr ⟨by kernel_rfl, rfl⟩) hHeld ?_
               try simp only [Act.put, FA, FB, FC]
               refine FD (i := 15) (v := undef) rfl (by kernel_rfl) (by kernel_rfl) (by kernel_rfl) (fun _ _ _ h => h) (Or.inr ⟨by kernel_rfl, rfl⟩) hHeld ?_
               try simp only [Act.put, FA, FB, FC]
               refine FD (i := 16) (v := undef) rfl (by kernel_rfl) (by kernel_rfl) (by kernel_rfl) (fun _ _ _ h => h) (Or.inr ⟨by kernel_rfl, rfl⟩) hHeld ?_
               try simp only [Act.put, FA, FB, FC]
               refine FD (i := 17) (v := undef) rfl (by kernel_rfl) (by kernel_rfl) (by kernel_rfl) (fun _ _ _ h => h) (Or.inr ⟨by kernel_rfl, rfl⟩) hHeld ?_
               try simp only [Act.put, FA, FB, FC]
               refine FD (i := 18) (oi := ⟨some 66, _, _, _, _, _⟩) (v := ?_) rfl (by kernel_rfl) (by kernel_rfl) (by kernel_rfl) (fun _ _ _ h => h) (Or.inl ⟨by kernel_rfl, ?_⟩) hHeld ?_
               rotate_left
               · intro w1 hSw; (try dsimp only at hSw); go_simp <;> with_reducible rfl
               try simp only [Act.put, FA, FB, FC]
               refine FD (i := 20) (oi := ⟨some 68, _, _, _, _, _⟩) (v := ?_) rfl (by kernel_rfl) (by kernel_rfl) (by kernel_rfl) (fun _ _ _ h => h) (Or.inl ⟨by kernel_rfl, ?_⟩) hHeld ?_
               rotate_left
               · intro w1 hSw; (try dsimp only at hSw); go_simp <;> with_reducible rfl
               try simp only [Act.put, FA, FB, FC]
               refine FD (i := 21) (oi := ⟨some 69, _, _, _, _, _⟩) (v := ?_) rfl (by kernel_rfl) (by kernel_rfl) (by kernel_rfl) (fun _ _ _ h => h) (Or.inl ⟨by kernel_rfl, ?_⟩) hHeld ?_
               rotate_left
               · intro w1 hSw; (try dsimp only at hSw); go_simp <;> with_reducible rfl
               try simp only [Act.put, FA, FB, FC]
               refine FD (i := 22) (oi := ⟨some 70, _, _, _, _, _⟩) (v := ?_) rfl (by kernel_rfl) (by kernel_rfl) (by kernel_rfl) (fun _ _ _ h => h) (Or.inl ⟨by kernel_rfl, ?_⟩) hHeld ?_
               rotate_left
               · intro w1 hSw; (try dsimp only at hSw); go_simp <;> with_reducible rfl
               try simp only [Act.put, FA, FB, FC]
               refine FD (i := 23) (oi := ⟨some 71, _, _, _, _, _⟩) (v := ?_) rfl (by kernel_rfl) (by kernel_rfl) (by kernel_rfl) (fun _ _ _ h => h) (Or.inl ⟨by kernel_rfl, ?_⟩) hHeld ?_
               rotate_left
               · intro w1 hSw; (try dsimp only at hSw); go_simp <;> with_reducible rfl
               try simp only [Act.put, FA, FB, FC]
               refine FD (i := 24) (oi := ⟨some 72, _, _, _, _, _⟩) (v := ?_) rfl (by kernel_rfl) (by kernel_rfl) (by kernel_rfl) (fun _ _ _ h => h) (Or.inl ⟨by kernel_rfl, ?_⟩) hHeld ?_
               rotate_left
               · intro w1 hSw; (try dsimp only at hSw); go_simp <;> with_reducible rfl
               try simp only [Act.put, FA, FB, FC]
               refine FD (i := 25) (oi := ⟨some 73, _, _, _, _, _⟩) (v := ?_) rfl (by kernel_rfl) (by kernel_rfl) (by kernel_rfl) (fun _ _ _ h => h) (Or.inl ⟨by kernel_rfl, ?_⟩) hHeld ?_
               rotate_left
               · intro w1 hSw; (try dsimp only at hSw); go_simp <;> with_reducible rfl
               try simp only [Act.put, FA, FB, FC]
               refine FD (i := 27) (oi := ⟨some 75, _, _, _, _, _⟩) (v := ?_) rfl (by kernel_rfl) (by kernel_rfl) (by kernel_rfl) (fun _ _ _ h => h) (Or.inl ⟨by kernel_rfl, ?_⟩) hHeld ?_
               rotate_left
               · intro w1 hSw; (try dsimp only at hSw); go_simp <;> with_reducible rfl
               try simp only [Act.put, FA, FB, FC]
               refine FD (i := 28) (oi := ⟨some 76, _, _, _, _, _⟩) (v := ?_) rfl (by kernel_rfl) (by kernel_rfl) (by kernel_rfl) (fun _ _ _ h => h) (Or.inl ⟨by kernel_rfl, ?_⟩) hHeld ?_
               rotate_left
               · intro w1 hSw; (try dsimp only at hSw); go_simp <;> with_reducible rfl
               try simp only [Act.put, FA, FB, FC]
               refine FG (rs := [19]) (by kernel_rfl) (by simp) ?_
               refine FE rfl (fun K hK => ?_) FF
               go_simp
               go_at_call 60
               refine (when_any _ _ _).mono ?_
               rintro e w1 ⟨rfl, rfl⟩
               try go_simp
               refine hK.out _ _ ?_ (fun hHeld => ?_)
               · exact hHeld
               clear hK K
               try simp only [Act.put, FA, FB, FC]
               refine FG (rs := [26]) (by kernel_rfl) (by simp) ?_
               refine FE rfl (fun K hK => ?_) FF
               go_simp
               go_at_call 61
               refine (checkName_any _ _).mono ?_
               rintro e w1 ⟨rfl, hbn⟩
               try go_simp
               refine hK.out _ _ ?_ (fun hHeld => ?_)
               · exact ⟨keepC hHeld.1 hbn, keepC hHeld.2.1 hbn, keepC hHeld.2.2.1 hbn, keepC hHeld.2.2.2.1 hbn, keepC hHeld.2.2.2.2.1 hbn, keepC hHeld.2.2.2.2.2.1 hbn, keepC hHeld.2.2.2.2.2.2.1 hbn, hHeld.2.2.2.2.2.2.2.trans ((hbn).mono hHeld.2.2.2.2.2.2.2.size)⟩
               clear hK K
               try simp only [Act.put, FA, FB, FC]
               refine FD (i := 29) (oi := ⟨some 77, _, _, _, _, _⟩) (v := ?_) rfl (by kernel_rfl) (by kernel_rfl) (by kernel_rfl) (fun _ _ _ h => h) (Or.inl ⟨by kernel_rfl, ?_⟩) hHeld ?_
               rotate_left
               · intro w1 hSw; (try dsimp only at hSw); go_simp <;> with_reducible rfl
               try simp only [Act.put, FA, FB, FC]
               refine FD (i := 30) (oi := ⟨some 78, _, _, _, _, _⟩) (v := ?_) rfl (by kernel_rfl) (by kernel_rfl) (by kernel_rfl) (fun _ _ _ h => h) (Or.inl ⟨by kernel_rfl, ?_⟩) hHeld ?_
               rotate_left
               · intro w1 hSw; (try dsimp only at hSw); go_simp <;> with_reducible rfl
               try simp only [Act.put, FA, FB, FC]
               refine FD (i := 31) (oi := ⟨some 79, _, _, _, _, _⟩) (v := ?_) rfl (by kernel_rfl) (by kernel_rfl) (by kernel_rfl) (fun _ _ _ h => h) (Or.inl ⟨by kernel_rfl, ?_⟩) hHeld ?_
               rotate_left
               · intro w1 hSw; (try dsimp only at hSw); go_simp <;> with_reducible rfl
               try simp only [Act.put, FA, FB, FC]
               refine FD (i := 32) (oi := ⟨some 80, _, _, _, _, _⟩) (v := ?_) rfl (by kernel_rfl) (by kernel_rfl) (by kernel_rfl) (fun _ _ _ h => h) (Or.inl ⟨by kernel_rfl, ?_⟩) hHeld ?_
               rotate_left
               · intro w1 hSw; (try dsimp only at hSw); go_simp <;> with_reducible rfl
               try simp only [Act.put, FA, FB, FC]
               refine FD (i := 33) (oi := ⟨some 81, _, _, _, _, _⟩) (v := ?_) rfl (by kernel_rfl) (by kernel_rfl) (by kernel_rfl) (fun _ _ _ h => h) (Or.inl ⟨by kernel_rfl, ?_⟩) hHeld ?_
               rotate_left
               · intro w1 hSw; (try dsimp only at hSw); go_simp <;> with_reducible rfl
               try simp only [Act.put, FA, FB, FC]
               refine FD (i := 34) (oi := ⟨some 82, _, _, _, _, _⟩) (v := ?_) rfl (by kernel_rfl) (by kernel_rfl) (by kernel_rfl) (fun _ _ _ h => h) (Or.inl ⟨by kernel_rfl, ?_⟩) hHeld ?_
               rotate_left
               · intro w1 hSw; (try dsimp only at hSw); go_simp <;> with_reducible rfl
               try simp only [Act.put, FA, FB, FC]
               refine FD (i := 35) (oi := ⟨some 83, _, _, _, _, _⟩) (v := ?_) rfl (by kernel_rfl) (by kernel_rfl) (by kernel_rfl) (fun _ _ _ h => h) (Or.inl ⟨by kernel_rfl, ?_⟩) hHeld ?_
               rotate_left
               · intro w1 hSw; (try dsimp only at hSw); go_simp <;> with_reducible rfl
               try simp only [Act.put, FA, FB, FC]
               refine FD (i := 36) (oi := ⟨some 84, _, _, _, _, _⟩) (v := ?_) rfl (by kernel_rfl) (by kernel_rfl) (by kernel_rfl) (fun _ _ _ h => h) (Or.inl ⟨by kernel_rfl, ?_⟩) hHeld ?_
               rotate_left
               · intro w1 hSw; (try dsimp only at hSw); go_simp <;> with_reducible rfl
               try simp only [Act.put, FA, FB, FC]
               refine FD (i := 37) (oi := ⟨some 85, _, _, _, _, _⟩) (v := ?_) rfl (by kernel_rfl) (by kernel_rfl) (by kernel_rfl) (fun _ _ _ h => h) (Or.inl ⟨by kernel_rfl, ?_⟩) hHeld ?_
               rotate_left
               · intro w1 hSw; (try dsimp only at hSw); go_simp <;> with_reducible rfl
               try simp only [Act.put, FA, FB, FC]
               refine FD (i := 38) (oi := ⟨some 86, _, _, _, _, _⟩) (v := ?_) rfl (by kernel_rfl) (by kernel_rfl) (by kernel_rfl) (fun _ _ _ h => h) (Or.inl ⟨by kernel_rfl, ?_⟩) hHeld ?_
               rotate_left
               · intro w1 hSw; (try dsimp only at hSw); go_simp <;> with_reducible rfl
               try simp only [Act.put, FA, FB, FC]
               refine FD (i := 39) (oi := ⟨some 87, _, _, _, _, _⟩) (v := ?_) rfl (by kernel_rfl) (by kernel_rfl) (by kernel_rfl) (fun _ _ _ h => h) (Or.inl ⟨by kernel_rfl, ?_⟩) hHeld ?_
               rotate_left
               · intro w1 hSw; (try dsimp only at hSw); go_simp <;> with_reducible rfl
               try simp only [Act.put, FA, FB, FC]
               refine FD (i := 40) (oi := ⟨some 88, _, _, _, _, _⟩) (v := ?_) rfl (by kernel_rfl) (by kernel_rfl) (by kernel_rfl) (fun _ _ _ h => h) (Or.inl ⟨by kernel_rfl, ?_⟩) hHeld ?_
               rotate_left
               · intro w1 hSw; (try dsimp only at hSw); go_simp <;> with_reducible rfl
               try simp only [Act.put, FA, FB, FC]
               refine FD (i := 41) (oi := ⟨some 89, _, _, _, _, _⟩) (v := ?_) rfl (by kernel_rfl) (by kernel_rfl) (by kernel_rfl) (fun _ _ _ h => h) (Or.inl ⟨by kernel_rfl, ?_⟩) hHeld ?_
               rotate_left
               · intro w1 hSw; (try dsimp only at hSw); go_simp <;> with_reducible rfl
               try simp only [Act.put, FA, FB, FC]
               refine FD (i := 42) (oi := ⟨some 90, _, _, _, _, _⟩) (v := ?_) rfl (by kernel_rfl) (by kernel_rfl) (by kernel_rfl) (fun _ _ _ h => h) (Or.inl ⟨by kernel_rfl, ?_⟩) hHeld ?_
               rotate_left
               · intro w1 hSw; (try dsimp only at hSw); go_simp <;> with_reducible rfl
               try simp only [Act.put, FA, FB, FC]
               refine FD (i := 43) (oi := ⟨some 91, _, _, _, _, _⟩) (v := ?_) rfl (by kernel_rfl) (by kernel_rfl) (by kernel_rfl) (fun _ _ _ h => h) (Or.inl ⟨by kernel_rfl, ?_⟩) hHeld ?_
               rotate_left
               · intro w1 hSw; (try dsimp only at hSw); go_simp <;> with_reducible rfl
               try simp only [Act.put, FA, FB, FC]
               refine FD (i := 44) (oi := ⟨some 92, _, _, _, _, _⟩) (v := ?_) rfl (by kernel_rfl) (by kernel_rfl) (by kernel_rfl) (fun _ _ _ h => h) (Or.inl ⟨by kernel_rfl, ?_⟩) hHeld ?_
               rotate_left
               · intro w1 hSw; (try dsimp only at hSw); go_simp <;> with_reducible rfl
               try simp only [Act.put, FA, FB, FC]
               refine FD (i := 45) (oi := ⟨some 93, _, _, _, _, _⟩) (v := ?_) rfl (by kernel_rfl) (by kernel_rfl) (by kernel_rfl) (fun _ _ _ h => h) (Or.inl ⟨by kernel_rfl, ?_⟩) hHeld ?_
               rotate_left
               · intro w1 hSw; (try dsimp only at hSw); go_simp <;> with_reducible rfl
               try simp only [Act.put, FA, FB, FC]
               refine FG (rs := [46]) (by kernel_rfl) (by simp) ?_
               refine FE rfl (fun K hK => ?_) FF
               go_simp
               go_at_call 60
               refine (when_any _ _ _).mono ?_
               rintro e w1 ⟨rfl, rfl⟩
               try go_simp
               refine hK.out _ _ ?_ (fun hHeld => ?_)
               · exact hHeld
               clear hK K
               try simp only [Act.put, FA, FB, FC]
               refine FG (rs := [47]) (by kernel_rfl) (by simp) ?_
               refine FE rfl (fun K hK => ?_) FF
               go_simp
               refine hK.out _ _ ?_ (fun hHeld => ?_)
               · exact ⟨keepC hHeld.1 ((Below.refl _ _).alloc (Nat.le_refl _) _), keepC hHeld.2.1 ((Below.refl _ _).alloc (Nat.le_refl _) _), keepC hHeld.2.2.1 ((Below.refl _ _).alloc (Nat.le_refl _) _), keepC hHeld.2.2.2.1 ((Below.refl _ _).alloc (Nat.le_refl _) _), keepC hHeld.2.2.2.2.1 ((Below.refl _ _).alloc (Nat.le_refl _) _), keepC hHeld.2.2.2.2.2.1 ((Below.refl _ _).alloc (Nat.le_refl _) _), keepC hHeld.2.2.2.2.2.2.1 ((Below.refl _ _).alloc (Nat.le_refl _) _), hHeld.2.2.2.2.2.2.2.trans ((((Below.refl _ _).alloc (Nat.le_refl _) _)).mono hHeld.2.2.2.2.2.2.2.size)⟩
               clear hK K
               try simp only [Act.put, FA, FB, FC]
               refine FG (rs := [48]) (by kernel_rfl) (by simp) ?_
               refine FE rfl (fun K hK => ?_) FF
               go_simp
               go_at_call 56
               refine (first_any _ _ _ [whenI true 10, whenI (!nameL nm.data.toList) 8, whenI (decide (ix ≤ iy)) 11] _ ?_ rfl (by simp)).mono ?_
               · exact Rd.new _ _ _ _ (by simp)
               rintro e w1 ⟨rfl, rfl⟩
               rw [← HEK.out]
               try go_simp
               refine hK.out _ _ ?_ (fun hHeld => ?_)
               · exact hHeld
               clear hK K
               try simp only [Act.put, FA, FB, FC]
               refine FD (i := 49) (oi := ⟨some 6, _, _, _, _, _⟩) (v := ?_) rfl (by kernel_rfl) (by kernel_rfl) (by kernel_rfl) (fun _ _ _ h => h) (Or.inl ⟨by kernel_rfl, ?_⟩) hHeld ?_
               rotate_left
               · intro w1 hSw; (try dsimp only at hSw); go_simp <;> with_reducible rfl
               try simp only [Act.put, FA, FB, FC]
               refine wpAnyH_done (by kernel_rfl) ?_ _
               have R4 := Lib.hid (R3.out.old hHeld.2.2.2.2.2.2.2)
               have HBW4 := Lib.hid (HBW3.out.trans (hHeld.2.2.2.2.2.2.2.mono HBW3.out.size))
               clear hHeld
               by_cases hE0 : EK = 0
               · subst hE0
                 go_wp2
                 go_roundw
                 case rel => exact ⟨k + 1, by omega, by go_num, NEXT.out.1 rfl, R4, HBW4⟩
                 case measure => simp [intOf]; omega
               · have hne : (EK != 0) = true := by simpa using hE0
                 have HF := Lib.hid (NEXT.out.2 hE0)
                 clear hE0
                 go_wp2
                 go_ret
                 exact ⟨ret_int HF.out, HBW4.out⟩
             · have hd1 : decide (ix < 0) = false := decide_eq_false hneg
               have HEK : Hid (EK = firstI [whenI (decide ((xs.length : Int) ≤ ix)) 10, whenI (!nameL nm.data.toList) 8, whenI (decide (ix ≤ iy)) 11]) := by
                unfold Hid; rw [hEK, errAt, hgx]
                simp only [hgy, hkd, Bool.true_and]
                rw [show (!decide (iy < ix)) = decide (ix ≤ iy) by rw [← decide_not]; congr 1; exact propext ⟨fun h => by omega, fun h => by omega⟩]
                simp only [hd1, Bool.true_or, Bool.false_or]
               clear hEK hgx hgy hkd
               go_upto_region 12 with fail
               refine wp_region_held_drew (S := fun w' => w'.cell? ⟨w.heap.size, 0, none⟩ = some (.int .i64 st) ∧ w'.cell? ⟨w.heap.size, 1, none⟩ = some (.int .i64 sp) ∧ w'.cell? ⟨w.heap.size, 2, none⟩ = some (.slice A xs.length c) ∧ w'.cell? ⟨w.heap.size, 3, none⟩ = some (.slice (some ⟨b, off, none⟩) ms.length d) ∧ w'.cell? ⟨b, off + k * 2, none⟩ = some (.int .i64 ix) ∧ w'.cell? ⟨b, off + k * 2 + 1, none⟩ = some (.string nm) ∧ w'.cell? ⟨b, off + j * 2, none⟩ = some (.int .i64 iy) ∧ Below wr.heap.size wr w') (by kernel_rfl) ?_ (fun hHeld => ?_)
               · exact ⟨R3.out.cell 0, R3.out.cell 1, R3.out.cell 2, R3.out.cell 3, HC1.out, HC2.out, HC3.out, (Below.refl _ _).drew⟩
               refine FD (i := 0) (oi := ⟨some 48, _, _, _, _, _⟩) (v := ?_) rfl (by kernel_rfl) (by kernel_rfl) (by kernel_rfl) (fun _ _ _ h => h) (Or.inl ⟨by kernel_rfl, ?_⟩) hHeld ?_
               rotate_left
               · intro w1 hSw; (try dsimp only at hSw); go_simp <;> with_reducible rfl
               try simp only [Act.put, FA, FB, FC]
               refine FD (i := 1) (oi := ⟨some 49, _, _, _, _, _⟩) (v := ?_) rfl (by kernel_rfl) (by kernel_rfl) (by kernel_rfl) (fun _ _ _ h => h) (Or.inl ⟨by kernel_rfl, ?_⟩) hHeld ?_
               rotate_left
               · intro w1 hSw; (try dsimp only at hSw); go_simp <;> with_reducible rfl
               try simp only [Act.put, FA, FB, FC]
               refine FD (i := 2) (oi := ⟨some 50, _, _, _, _, _⟩) (v := ?_) rfl (by kernel_rfl) (by kernel_rfl) (by kernel_rfl) (fun _ _ _ h => h) (Or.inl ⟨by kernel_rfl, ?_⟩) hHeld ?_
               rotate_left
               · intro w1 hSw; (try dsimp only at hSw); go_simp <;> with_reducible rfl
               try simp only [Act.put, FA, FB, FC]
               refine FD (i := 3) (oi := ⟨some 51, _, _, _, _, _⟩) (v := ?_) rfl (by kernel_rfl) (by kernel_rfl) (by kernel_rfl) (fun _ _ _ h => h) (Or.inl ⟨by kernel_rfl, ?_⟩) hHeld ?_
               rotate_left
               · intro w1 hSw; (try dsimp only at hSw); go_simp <;> with_reducible rfl
               try simp only [Act.put, FA, FB, FC]
               refine FD (i := 4) (oi := ⟨some 52, _, _, _, _, _⟩) (v := ?_) rfl (by kernel_rfl) (by kernel_rfl) (by kernel_rfl) (fun _ _ _ h => h) (Or.inl ⟨by kernel_rfl, ?_⟩) hHeld ?_
               rotate_left
               · intro w1 hSw; (try dsimp only at hSw); go_simp <;> with_reducible rfl
               try simp only [Act.put, FA, FB, FC]
               refine FD (i := 5) (oi := ⟨some 53, _, _, _, _, _⟩) (v := ?_) rfl (by kernel_rfl) (by kernel_rfl) (by kernel_rfl) (fun _ _ _ h => h) (Or.inl ⟨by kernel_rfl, ?_⟩) hHeld ?_
               rotate_left
               · intro w1 hSw; (try dsimp only at hSw); go_simp <;> with_reducible rfl
               try simp only [Act.put, FA, FB, FC]
               refine FD (i := 6) (oi := ⟨some 54, _, _, _, _, _⟩) (v := ?_) rfl (by kernel_rfl) (by kernel_rfl) (by kernel_rfl) (fun _ _ _ h => h) (Or.inl ⟨by kernel_rfl, ?_⟩) hHeld ?_
               rotate_left
               · intro w1 hSw; (try dsimp only at hSw); go_simp <;> with_reducible rfl
               try simp only [Act.put, FA, FB, FC]
               refine FD (i := 7) (oi := ⟨some 55, _, _, _, _, _⟩) (v := ?_) rfl (by kernel_rfl) (by kernel_rfl) (by kernel_rfl) (fun _ _ _ h => h) (Or.inl ⟨by kernel_rfl, ?_⟩) hHeld ?_
               rotate_left
               · intro w1 hSw; (try dsimp only at hSw); go_simp <;> with_reducible rfl
               try simp only [Act.put, FA, FB, FC]
               refine FD (i := 8) (oi := ⟨some 56, _, _, _, _, _⟩) (v := ?_) rfl (by kernel_rfl) (by kernel_rfl) (by kernel_rfl) (fun _ _ _ h => h) (Or.inl ⟨by kernel_rfl, ?_⟩) hHeld ?_
               rotate_left
               · intro w1 hSw; (try dsimp only at hSw); go_simp <;> with_reducible rfl
               try simp only [Act.put, FA, FB, FC]
               refine FD (i := 9) (oi := ⟨some 57, _, _, _, _, _⟩) (v := ?_) rfl (by kernel_rfl) (by kernel_rfl) (by kernel_rfl) (fun _ _ _ h => h) (Or.inl ⟨by kernel_rfl, ?_⟩) hHeld ?_
               rotate_left
               · intro w1 hSw; (try dsimp only at hSw); go_simp <;> with_reducible rfl
               try simp only [Act.put, FA, FB, FC]
               refine FD (i := 10) (oi := ⟨some 58, _, _, _, _, _⟩) (v := ?_) rfl (by kernel_rfl) (by kernel_rfl) (by kernel_rfl) (fun _ _ _ h => h) (Or.inl ⟨by kernel_rfl, ?_⟩) hHeld ?_
               rotate_left
               · intro w1 hSw; (try dsimp only at hSw); go_simp <;> with_reducible rfl
               try simp only [Act.put, FA, FB, FC]
               refine FD (i := 11) (oi := ⟨some 59, _, _, _, _, _⟩) (v := ?_) rfl (by kernel_rfl) (by kernel_rfl) (by kernel_rfl) (fun _ _ _ h => h) (Or.inl ⟨by kernel_rfl, ?_⟩) hHeld ?_
               rotate_left
               · intro w1 hSw; (try dsimp only at hSw); go_simp <;> with_reducible rfl
               try simp only [Act.put, FA, FB, FC]
               refine FD (i := 12) (oi := ⟨some 60, _, _, _, _, _⟩) (v := ?_) rfl (by kernel_rfl) (by kernel_rfl) (by kernel_rfl) (fun _ _ _ h => h) (Or.inl ⟨by kernel_rfl, ?_⟩) hHeld ?_
               rotate_left
               · intro w1 hSw; (try dsimp only at hSw); go_simp <;> with_reducible rfl
               try simp only [Act.put, FA, FB, FC]
               refine FD (i := 13) (oi := ⟨some 61, _, _, _, _, _⟩) (v := ?_) rfl (by kernel_rfl) (by kernel_rfl) (by kernel_rfl) (fun _ _ _ h => h) (Or.inl ⟨by kernel_rfl, ?_⟩) hHeld ?_
               rotate_left
               · intro w1 hSw; (try dsimp only at hSw); go_simp <;> with_reducible rfl
               try simp only [Act.put, FA, FB, FC]
               refine FD (i := 14) (oi := ⟨some 62, _, _, _, _, _⟩) (v := ?_) rfl (by kernel_rfl) (by kernel_rfl) (by kernel_rfl) (fun _ _ _ h => h) (Or.inl ⟨by kernel_rfl, ?_⟩) hHeld ?_
               rotate_left
               · intro w1 hSw; (try dsimp only at hSw); go_simp <;> with_reducible rfl
               try simp only [Act.put, FA, FB, FC]
               refine FD (i := 15) (oi := ⟨some 63, _, _, _, _, _⟩) (v := ?_) rfl (by kernel_rfl) (by kernel_rfl) (by kernel_rfl) (fun _ _ _ h => h) (Or.inl ⟨by kernel_rfl, ?_⟩) hHeld ?_
               rotate_left
               · intro w1 hSw; (try dsimp only at hSw); go_simp <;> with_reducible rfl
               try simp only [Act.put, FA, FB, FC]
               refine FD (i := 16) (oi := ⟨some 64, _, _, _, _, _⟩) (v := ?_) rfl (by kernel_rfl) (by kernel_rfl) (by kernel_rfl) (fun _ _ _ h => h) (Or.inl ⟨by kernel_rfl, ?_⟩) hHeld ?_
               rotate_left
               · intro w1 hSw; (try dsimp only at hSw); go_simp <;> with_reducible rfl
               try simp only [Act.put, FA, FB, FC]
               refine FD (i := 17) (oi := ⟨some 65, _, _, _, _, _⟩) (v := ?_) rfl (by kernel_rfl) (by kernel_rfl) (by kernel_rfl) (fun _ _ _ h => h) (Or.inl ⟨by kernel_rfl, ?_⟩) hHeld ?_
               rotate_left
               · intro w1 hSw; (try dsimp only at hSw); go_simp <;> with_reducible rfl
               try simp only [Act.put, FA, FB, FC]
               refine FD (i := 18) (oi := ⟨some 66, _, _, _, _, _⟩) (v := ?_) rfl (by kernel_rfl) (by kernel_rfl) (by kernel_rfl) (fun _ _ _ h => h) (Or.inl ⟨by kernel_rfl, ?_⟩) hHeld ?_
               rotate_left
               · intro w1 hSw; (try dsimp only at hSw); go_simp <;> with_reducible rfl
               try simp only [Act.put, FA, FB, FC]
               refine FD (i := 20) (oi := ⟨some 68, _, _, _, _, _⟩) (v := ?_) rfl (by kernel_rfl) (by kernel_rfl) (by kernel_rfl) (fun _ _ _ h => h) (Or.inl ⟨by kernel_rfl, ?_⟩) hHeld ?_
               rotate_left
               · intro w1 hSw; (try dsimp only at hSw); go_simp <;> with_reducible rfl
               try simp only [Act.put, FA, FB, FC]
               refine FD (i := 21) (oi := ⟨some 69, _, _, _, _, _⟩) (v := ?_) rfl (by kernel_rfl) (by kernel_rfl) (by kernel_rfl) (fun _ _ _ h => h) (Or.inl ⟨by kernel_rfl, ?_⟩) hHeld ?_
               rotate_left
               · intro w1 hSw; (try dsimp only at hSw); go_simp <;> with_reducible rfl
               try simp only [Act.put, FA, FB, FC]
               refine FD (i := 22) (oi := ⟨some 70, _, _, _, _, _⟩) (v := ?_) rfl (by kernel_rfl) (by kernel_rfl) (by kernel_rfl) (fun _ _ _ h => h) (Or.inl ⟨by kernel_rfl, ?_⟩) hHeld ?_
               rotate_left
               · intro w1 hSw; (try dsimp only at hSw); go_simp <;> with_reducible rfl
               try simp only [Act.put, FA, FB, FC]
               refine FD (i := 23) (oi := ⟨some 71, _, _, _, _, _⟩) (v := ?_) rfl (by kernel_rfl) (by kernel_rfl) (by kernel_rfl) (fun _ _ _ h => h) (Or.inl ⟨by kernel_rfl, ?_⟩) hHeld ?_
               rotate_left
               · intro w1 hSw; (try dsimp only at hSw); go_simp <;> with_reducible rfl
               try simp only [Act.put, FA, FB, FC]
               refine FD (i := 24) (oi := ⟨some 72, _, _, _, _, _⟩) (v := ?_) rfl (by kernel_rfl) (by kernel_rfl) (by kernel_rfl) (fun _ _ _ h => h) (Or.inl ⟨by kernel_rfl, ?_⟩) hHeld ?_
               rotate_left
               · intro w1 hSw; (try dsimp only at hSw); go_simp <;> with_reducible rfl
               try simp only [Act.put, FA, FB, FC]
               refine FD (i := 25) (oi := ⟨some 73, _, _, _, _, _⟩) (v := ?_) rfl (by kernel_rfl) (by kernel_rfl) (by kernel_rfl) (fun _ _ _ h => h) (Or.inl ⟨by kernel_rfl, ?_⟩) hHeld ?_
               rotate_left
               · intro w1 hSw; (try dsimp only at hSw); go_simp <;> with_reducible rfl
               try simp only [Act.put, FA, FB, FC]
               refine FD (i := 27) (oi := ⟨some 75, _, _, _, _, _⟩) (v := ?_) rfl (by kernel_rfl) (by kernel_rfl) (by kernel_rfl) (fun _ _ _ h => h) (Or.inl ⟨by kernel_rfl, ?_⟩) hHeld ?_
               rotate_left
               · intro w1 hSw; (try dsimp only at hSw); go_simp <;> with_reducible rfl
               try simp only [Act.put, FA, FB, FC]
               refine FD (i := 28) (oi := ⟨some 76, _, _, _, _, _⟩) (v := ?_) rfl (by kernel_rfl) (by kernel_rfl) (by kernel_rfl) (fun _ _ _ h => h) (Or.inl ⟨by kernel_rfl, ?_⟩) hHeld ?_
               rotate_left
               · intro w1 hSw; (try dsimp only at hSw); go_simp <;> with_reducible rfl
               try simp only [Act.put, FA, FB, FC]
               refine FG (rs := [19]) (by kernel_rfl) (by simp) ?_
               refine FE rfl (fun K hK => ?_) FF
               go_simp
               go_at_call 60
               refine (when_any _ _ _).mono ?_
               rintro e w1 ⟨rfl, rfl⟩
               try go_simp
               refine hK.out _ _ ?_ (fun hHeld => ?_)
               · exact hHeld
               clear hK K
               try simp only [Act.put, FA, FB, FC]
               refine FG (rs := [26]) (by kernel_rfl) (by simp) ?_
               refine FE rfl (fun K hK => ?_) FF
               go_simp
               go_at_call 61
               refine (checkName_any _ _).mono ?_
               rintro e w1 ⟨rfl, hbn⟩
               try go_simp
               refine hK.out _ _ ?_ (fun hHeld => ?_)
               · exact ⟨keepC hHeld.1 hbn, keepC hHeld.2.1 hbn, keepC hHeld.2.2.1 hbn, keepC hHeld.2.2.2.1 hbn, keepC hHeld.2.2.2.2.1 hbn, keepC hHeld.2.2.2.2.2.1 hbn, keepC hHeld.2.2.2.2.2.2.1 hbn, hHeld.2.2.2.2.2.2.2.trans ((hbn).mono hHeld.2.2.2.2.2.2.2.size)⟩
               clear hK K
               try simp only [Act.put, FA, FB, FC]
               refine FD (i := 29) (oi := ⟨some 77, _, _, _, _, _⟩) (v := ?_) rfl (by kernel_rfl) (by kernel_rfl) (by kernel_rfl) (fun _ _ _ h => h) (Or.inl ⟨by kernel_rfl, ?_⟩) hHeld ?_
               rotate_left
               · intro w1 hSw; (try dsimp only at hSw); go_simp <;> with_reducible rfl
               try simp only [Act.put, FA, FB, FC]
               refine FD (i := 30) (oi := ⟨some 78, _, _, _, _, _⟩) (v := ?_) rfl (by kernel_rfl) (by kernel_rfl) (by kernel_rfl) (fun _ _ _ h => h) (Or.inl ⟨by kernel_rfl, ?_⟩) hHeld ?_
               rotate_left
               · intro w1 hSw; (try dsimp only at hSw); go_simp <;> with_reducible rfl
               try simp only [Act.put, FA, FB, FC]
               refine FD (i := 31) (oi := ⟨some 79, _, _, _, _, _⟩) (v := ?_) rfl (by kernel_rfl) (by kernel_rfl) (by kernel_rfl) (fun _ _ _ h => h) (Or.inl ⟨by kernel_rfl, ?_⟩) hHeld ?_
               rotate_left
               · intro w1 hSw; (try dsimp only at hSw); go_simp <;> with_reducible rfl
               try simp only [Act.put, FA, FB, FC]
               refine FD (i := 32) (oi := ⟨some 80, _, _, _, _, _⟩) (v := ?_) rfl (by kernel_rfl) (by kernel_rfl) (by kernel_rfl) (fun _ _ _ h => h) (Or.inl ⟨by kernel_rfl, ?_⟩) hHeld ?_
               rotate_left
               · intro w1 hSw; (try dsimp only at hSw); go_simp <;> with_reducible rfl
               try simp only [Act.put, FA, FB, FC]
               refine FD (i := 33) (oi := ⟨some 81, _, _, _, _, _⟩) (v := ?_) rfl (by kernel_rfl) (by kernel_rfl) (by kernel_rfl) (fun _ _ _ h => h) (Or.inl ⟨by kernel_rfl, ?_⟩) hHeld ?_
               rotate_left
               · intro w1 hSw; (try dsimp only at hSw); go_simp <;> with_reducible rfl
               try simp only [Act.put, FA, FB, FC]
               refine FD (i := 34) (oi := ⟨some 82, _, _, _, _, _⟩) (v := ?_) rfl (by kernel_rfl) (by kernel_rfl) (by kernel_rfl) (fun _ _ _ h => h) (Or.inl ⟨by kernel_rfl, ?_⟩) hHeld ?_
               rotate_left
               · intro w1 hSw; (try dsimp only at hSw); go_simp <;> with_reducible rfl
               try simp only [Act.put, FA, FB, FC]
               refine FD (i := 35) (oi := ⟨some 83, _, _, _, _, _⟩) (v := ?_) rfl (by kernel_rfl) (by kernel_rfl) (by kernel_rfl) (fun _ _ _ h => h) (Or.inl ⟨by kernel_rfl, ?_⟩) hHeld ?_
               rotate_left
               · intro w1 hSw; (try dsimp only at hSw); go_simp <;> with_reducible rfl
               try simp only [Act.put, FA, FB, FC]
               refine FD (i := 36) (oi := ⟨some 84, _, _, _, _, _⟩) (v := ?_) rfl (by kernel_rfl) (by kernel_rfl) (by kernel_rfl) (fun _ _ _ h => h) (Or.inl ⟨by kernel_rfl, ?_⟩) hHeld ?_
               rotate_left
               · intro w1 hSw; (try dsimp only at hSw); go_simp <;> with_reducible rfl
               try simp only [Act.put, FA, FB, FC]
               refine FD (i := 37) (oi := ⟨some 85, _, _, _, _, _⟩) (v := ?_) rfl (by kernel_rfl) (by kernel_rfl) (by kernel_rfl) (fun _ _ _ h => h) (Or.inl ⟨by kernel_rfl, ?_⟩) hHeld ?_
               rotate_left
               · intro w1 hSw; (try dsimp only at hSw); go_simp <;> with_reducible rfl
               try simp only [Act.put, FA, FB, FC]
               refine FD (i := 38) (oi := ⟨some 86, _, _, _, _, _⟩) (v := ?_) rfl (by kernel_rfl) (by kernel_rfl) (by kernel_rfl) (fun _ _ _ h => h) (Or.inl ⟨by kernel_rfl, ?_⟩) hHeld ?_
               rotate_left
               · intro w1 hSw; (try dsimp only at hSw); go_simp <;> with_reducible rfl
               try simp only [Act.put, FA, FB, FC]
               refine FD (i := 39) (oi := ⟨some 87, _, _, _, _, _⟩) (v := ?_) rfl (by kernel_rfl) (by kernel_rfl) (by kernel_rfl) (fun _ _ _ h => h) (Or.inl ⟨by kernel_rfl, ?_⟩) hHeld ?_
               rotate_left
               · intro w1 hSw; (try dsimp only at hSw); go_simp <;> with_reducible rfl
               try simp only [Act.put, FA, FB, FC]
               refine FD (i := 40) (oi := ⟨some 88, _, _, _, _, _⟩) (v := ?_) rfl (by kernel_rfl) (by kernel_rfl) (by kernel_rfl) (fun _ _ _ h => h) (Or.inl ⟨by kernel_rfl, ?_⟩) hHeld ?_
               rotate_left
               · intro w1 hSw; (try dsimp only at hSw); go_simp <;> with_reducible rfl
               try simp only [Act.put, FA, FB, FC]
               refine FD (i := 41) (oi := ⟨some 89, _, _, _, _, _⟩) (v := ?_) rfl (by kernel_rfl) (by kernel_rfl) (by kernel_rfl) (fun _ _ _ h => h) (Or.inl ⟨by kernel_rfl, ?_⟩) hHeld ?_
               rotate_left
               · intro w1 hSw; (try dsimp only at hSw); go_simp <;> with_reducible rfl
               try simp only [Act.put, FA, FB, FC]
               refine FD (i := 42) (oi := ⟨some 90, _, _, _, _, _⟩) (v := ?_) rfl (by kernel_rfl) (by kernel_rfl) (by kernel_rfl) (fun _ _ _ h => h) (Or.inl ⟨by kernel_rfl, ?_⟩) hHeld ?_
               rotate_left
               · intro w1 hSw; (try dsimp only at hSw); go_simp <;> with_reducible rfl
               try simp only [Act.put, FA, FB, FC]
               refine FD (i := 43) (oi := ⟨some 91, _, _, _, _, _⟩) (v := ?_) rfl (by kernel_rfl) (by kernel_rfl) (by kernel_rfl) (fun _ _ _ h => h) (Or.inl ⟨by kernel_rfl, ?_⟩) hHeld ?_
               rotate_left
               · intro w1 hSw; (try dsimp only at hSw); go_simp <;> with_reducible rfl
               try simp only [Act.put, FA, FB, FC]
               refine FD (i := 44) (oi := ⟨some 92, _, _, _, _, _⟩) (v := ?_) rfl (by kernel_rfl) (by kernel_rfl) (by kernel_rfl) (fun _ _ _ h => h) (Or.inl ⟨by kernel_rfl, ?_⟩) hHeld ?_
               rotate_left
               · intro w1 hSw; (try dsimp only at hSw); go_simp <;> with_reducible rfl
               try simp only [Act.put, FA, FB, FC]
               refine FD (i := 45) (oi := ⟨some 93, _, _, _, _, _⟩) (v := ?_) rfl (by kernel_rfl) (by kernel_rfl) (by kernel_rfl) (fun _ _ _ h => h) (Or.inl ⟨by kernel_rfl, ?_⟩) hHeld ?_
               rotate_left
               · intro w1 hSw; (try dsimp only at hSw); go_simp <;> with_reducible rfl
               try simp only [Act.put, FA, FB, FC]
               refine FG (rs := [46]) (by kernel_rfl) (by simp) ?_
               refine FE rfl (fun K hK => ?_) FF
               go_simp
               go_at_call 60
               refine (when_any _ _ _).mono ?_
               rintro e w1 ⟨rfl, rfl⟩
               try go_simp
               refine hK.out _ _ ?_ (fun hHeld => ?_)
               · exact hHeld
               clear hK K
               try simp only [Act.put, FA, FB, FC]
               refine FG (rs := [47]) (by kernel_rfl) (by simp) ?_
               refine FE rfl (fun K hK => ?_) FF
               go_simp
               refine hK.out _ _ ?_ (fun hHeld => ?_)
               · exact ⟨keepC hHeld.1 ((Below.refl _ _).alloc (Nat.le_refl _) _), keepC hHeld.2.1 ((Below.refl _ _).alloc (Nat.le_refl _) _), keepC hHeld.2.2.1 ((Below.refl _ _).alloc (Nat.le_refl _) _), keepC hHeld.2.2.2.1 ((Below.refl _ _).alloc (Nat.le_refl _) _), keepC hHeld.2.2.2.2.1 ((Below.refl _ _).alloc (Nat.le_refl _) _), keepC hHeld.2.2.2.2.2.1 ((Below.refl _ _).alloc (Nat.le_refl _) _), keepC hHeld.2.2.2.2.2.2.1 ((Below.refl _ _).alloc (Nat.le_refl _) _), hHeld.2.2.2.2.2.2.2.trans ((((Below.refl _ _).alloc (Nat.le_refl _) _)).mono hHeld.2.2.2.2.2.2.2.size)⟩
               clear hK K
               try simp only [Act.put, FA, FB, FC]
               refine FG (rs := [48]) (by kernel_rfl) (by simp) ?_
               refine FE rfl (fun K hK => ?_) FF
               go_simp
               go_at_call 56
               refine (first_any _ _ _ [whenI (decide ((xs.length : Int) ≤ ix)) 10, whenI (!nameL nm.data.toList) 8, whenI (decide (ix ≤ iy)) 11] _ ?_ rfl (by simp)).mono ?_
               · exact Rd.new _ _ _ _ (by simp)
               rintro e w1 ⟨rfl, rfl⟩
               rw [← HEK.out]
               try go_simp
               refine hK.out _ _ ?_ (fun hHeld => ?_)
               · exact hHeld
               clear hK K
               try simp only [Act.put, FA, FB, FC]
               refine FD (i := 49) (oi := ⟨some 6, _, _, _, _, _⟩) (v := ?_) rfl (by kernel_rfl) (by kernel_rfl) (by kernel_rfl) (fun _ _ _ h => h) (Or.inl ⟨by kernel_rfl, ?_⟩) hHeld ?_
               rotate_left
               · intro w1 hSw; (try dsimp only at hSw); go_simp <;> with_reducible rfl
               try simp only [Act.put, FA, FB, FC]
               refine wpAnyH_done (by kernel_rfl) ?_ _
               have R4 := Lib.hid (R3.out.old hHeld.2.2.2.2.2.2.2)
               have HBW4 := Lib.hid (HBW3.out.trans (hHeld.2.2.2.2.2.2.2.mono HBW3.out.size))
               clear hHeld
               by_cases hE0 : EK = 0
               · subst hE0
                 go_wp2
                 go_roundw
                 case rel => exact ⟨k + 1, by omega, by go_num, NEXT.out.1 rfl, R4, HBW4⟩
                 case measure => simp [intOf]; omega
               · have hne : (EK != 0) = true := by simpa using hE0
                 have HF := Lib.hid (NEXT.out.2 hE0)
                 clear hE0
                 go_wp2
                 go_ret
                 exact ⟨ret_int HF.out, HBW4.out⟩
         · obtain rfl : k = ms.length := by omega
           have HF2 : Hid (RI = 0) := by unfold Hid; rw [← HF.out, List.drop_of_length_le (by rw [errL_length]; exact Nat.le_refl _)]; rfl
           clear HF
           go_wp2
           go_ret
           exact ⟨ret_int HF2.out.symm, HBW3.out⟩
    · have HRI2 : Hid (RI = 4) := by unfold Hid; rw [HRI.out, firstI_cons]; rfl
      clear HRI
      go_wp2_with fail
      go_ret
      exact ⟨ret_int HRI2.out.symm, HBW2.out⟩
 · rw [if_neg hE0] at hRI
   have hne : (E1 != 0) = true := by simpa using hE0
   have HRI := Lib.hid hRI
   clear hE1 hRI hE0
   go_wp2
   go_ret
   exact ⟨ret_int HRI.out.symm, HBW2.out⟩
end Go.Proofs.YtjdniebjhilooaaGreatDoor
