import Derived.Test.YtjdniebjhilooaaGreatDoorM11
namespace Go.Proofs.YtjdniebjhilooaaGreatDoor
set_option linter.all false
open Go.RowKit Go.Fl
def KA := @List.setIfInBounds_toArray
def KD := @wpAnyH_take
def KE := @AllReadyH.cons
def KF := @AllReadyH.nil
def KG := @wpAnyH_ready
def KB := @List.set_cons_zero
def KC := @List.set_cons_succ
def tickI (st sp i : Int) : Int := wrap64 (st + wrap64 (i * sp))
set_option maxHeartbeats 400000 in
theorem tick_any (st sp i : Int) (A1 A2 : Option Addr) (n1 c1 n2 c2 : Nat) (w : World) : Calls Tryz.prog 97 #[.agg #[.int .i64 st, .int .i64 sp, .slice A1 n1 c1, .slice A2 n2 c2], .int .i64 i] w fun e w' => e = .returned (.int .i64 (tickI st sp i)) ∧ Below w.heap.size w w' := by
 go_enter Tryz.func97, Tryz.ntmps97
 go_wp2
 go_ret
 exact ⟨rfl, (Below.refl _ _).alloc (Nat.le_refl _) _⟩
set_option maxHeartbeats 400000 in
theorem after_any (a b : Int) (s t : ByteArray) (w : World) : Calls Tryz.prog 138 #[.agg #[.int .i64 a, .string s], .agg #[.int .i64 b, .string t]] w fun e w' => e = .returned (.bool (decide (b < a))) ∧ Below w.heap.size w w' := by
 go_enter Tryz.func138, Tryz.ntmps138
 go_wp2
 go_ret
 exact ⟨rfl, ((Below.refl _ _).alloc (Nat.le_refl _) _).alloc (by simp) _⟩
def markC (l : List (Int × ByteArray)) : List Value := l.flatMap fun p => [.int .i64 p.1, .string p.2]
theorem markC_length (l : List (Int × ByteArray)) : (markC l).length = l.length * 2 := by
 induction l with
 | nil => rfl
 | cons p l ih => simp only [markC, List.flatMap_cons, List.length_append, List.length_cons, List.length_nil] at ih ⊢; omega
theorem markC_app (l m : List (Int × ByteArray)) : markC (l ++ m) = markC l ++ markC m := by simp [markC]
theorem markC_get (l : List (Int × ByteArray)) (k : Nat) (hk : k < l.length) : (markC l)[k * 2]? = some (.int .i64 l[k].1) ∧ (markC l)[k * 2 + 1]? = some (.string l[k].2) := by
 induction l generalizing k with
 | nil => simp at hk
 | cons p l ih =>
   match k, hk with
   | 0, _ => exact ⟨rfl, rfl⟩
   | k + 1, hk =>
     have h := ih k (by simpa using hk)
     have e1 : (k + 1) * 2 = k * 2 + 2 := by omega
     rw [e1, show k * 2 + 2 + 1 = k * 2 + 1 + 2 by omega]
     exact ⟨by simpa [markC] using h.1, by simpa [markC] using h.2⟩
theorem Rd.mark {w : World} {A : Option Addr} {l : List (Int × ByteArray)} (h : Rd w A (markC l)) {k : Nat} (hk : k < l.length) : ∃ b off, A = some ⟨b, off, none⟩ ∧ w.cell? ⟨b, off + k * 2, none⟩ = some (.int .i64 l[k].1) ∧ w.cell? ⟨b, off + k * 2 + 1, none⟩ = some (.string l[k].2) := by
 obtain ⟨h1, h2⟩ := markC_get l k hk
 obtain ⟨b, off, hA, hc1⟩ := h _ _ h1
 obtain ⟨b', off', hA', hc2⟩ := h _ _ h2
 rw [hA] at hA'
 cases hA'
 exact ⟨b, off, hA, hc1, by rw [Nat.add_assoc]; exact hc2⟩
def errAt (n : Int) (ms : List (Int × ByteArray)) (k : Nat) : Int :=
 firstI [whenI (decide ((ms.getD k (0, ByteArray.empty)).1 < 0) || decide (n ≤ (ms.getD k (0, ByteArray.empty)).1)) 10, whenI (!nameL (ms.getD k (0, ByteArray.empty)).2.data.toList) 8, whenI (decide (0 < k) && !decide ((ms.getD (k - 1) (0, ByteArray.empty)).1 < (ms.getD k (0, ByteArray.empty)).1)) 11]
def errL (n : Int) (ms : List (Int × ByteArray)) : List Int := (List.range ms.length).map (errAt n ms)
def marksI (n : Int) (ms : List (Int × ByteArray)) : Int := if 16 < ms.length then 5 else firstI (errL n ms)
theorem errL_length (n : Int) (ms : List (Int × ByteArray)) : (errL n ms).length = ms.length := by simp [errL]
theorem errL_get (n : Int) (ms : List (Int × ByteArray)) (k : Nat) (h : k < (errL n ms).length) : (errL n ms)[k] = errAt n ms k := by simp [errL]
set_option maxHeartbeats 400000 in
theorem checkIndex_any (i n : Int) (w : World) : Calls Tryz.prog 139 #[.int .i64 i, .int .i64 n] w fun e w' => e = .returned (.int .i64 (whenI (decide (i < 0) || decide (n ≤ i)) 10)) ∧ w' = w := by
 cases h : decide (i < 0) <;> cases h2 : decide (n ≤ i)
 all_goals go_enter Tryz.func139, Tryz.ntmps139
 all_goals go_wp2_with (go_at_call 96; refine (failed_any _ _ _).mono ?_; rintro e w1 ⟨rfl, rfl⟩)
 all_goals go_ret
 all_goals exact ⟨rfl, rfl⟩
set_option maxRecDepth 100000 in
set_option maxHeartbeats 2000000 in
theorem checkMarks_any (A : Option Addr) (nm cm : Nat) (n : Int) (ms : List (Int × ByteArray)) (w : World) (hA : Rd w A (markC ms)) (hn : nm = ms.length) :
 Calls Tryz.prog 110 #[.slice A nm cm, .int .i64 n] w fun e w' => e = .returned (.int .i64 (marksI n ms)) ∧ Below w.heap.size w w' := by
 subst hn
 by_cases hl : 16 < ms.length
 · have HL := Lib.hid hl
   go_enter Tryz.func110, Tryz.ntmps110
   go_wp2
   go_ret
   exact ⟨ret_int (by rw [marksI, if_pos HL.out]), Below.refl _ _⟩
 · have HL : Hid (marksI n ms = firstI (errL n ms)) := by unfold Hid; rw [marksI, if_neg hl]
   have hl16 : ms.length ≤ 16 := by omega
   have HA := Lib.hid hA
   clear hl hA
   go_enter Tryz.func110, Tryz.ntmps110
   go_wp2
   go_loopg [14] ms.length (fun g i wr => ∃ k : Nat, k ≤ ms.length ∧ i = .int .i64 k ∧ g = ms.length - k ∧ Hid (firstI ((errL n ms).drop k) = marksI n ms) ∧ Hid (Below w.heap.size w wr))
   case atStart => exact ⟨0, Nat.zero_le _, rfl, rfl, HL.out.symm, Below.refl _ _⟩
   case round =>
    obtain ⟨k, hk, rfl, hg, H, HB⟩ := hrel
    subst hg
    by_cases hlt : k < ms.length
    · obtain ⟨b, off, hAb, hc1, hc2⟩ := Rd.mark (HA.out.below HB.out) hlt
      subst hAb
      obtain ⟨ix, hix⟩ : ∃ ix, ix = ms[k].1 := ⟨_, rfl⟩
      obtain ⟨nm, hnm⟩ : ∃ nm, nm = ms[k].2 := ⟨_, rfl⟩
      have hd := firstI_drop (zs := errL n ms) (k := k) (by rw [errL_length]; exact hlt)
      rw [errL_get] at hd
      have hgk : ms.getD k (0, ByteArray.empty) = (ix, nm) := by rw [hix, hnm, List.getD_eq_getElem?_getD, List.getElem?_eq_getElem hlt]; rfl
      rw [← hix] at hc1; rw [← hnm] at hc2
      have Hd := Lib.hid hd
      have Hgk := Lib.hid hgk
      obtain ⟨er, her⟩ : ∃ er, er = errAt n ms k := ⟨_, rfl⟩
      have Her := Lib.hid her
      have Hc : Hid (wr.cell? ⟨b, off + k * 2, none⟩ = some (.int .i64 ix) ∧ wr.cell? ⟨b, off + k * 2 + 1, none⟩ = some (.string nm)) := ⟨hc1, hc2⟩
      have hnew1 : ∀ o : Obj, (wr.alloc o).heap.size = wr.heap.size + 1 := fun o => by simp
      clear hd hgk her hix hnm
      go_upto_region 7 with fail
      go_cut [8] (fun s8 wx => s8 = .int .i64 er ∧ Below wr.heap.size wr wx)
      case first =>
       by_cases hk0 : k = 0
       · have Hk0 := Lib.hid hk0
         have hd0 : decide (0 < k) = false := by simp; omega
         clear hk0
         have he : Hid (er = firstI [whenI (decide (ix < 0) || decide (n ≤ ix)) 10, whenI (!nameL nm.data.toList) 8, whenI false 11]) := by
          unfold Hid; rw [Her.out, errAt, Hgk.out]; simp [Hk0.out]
         refine wp_region_held_drew (S := fun w' => w'.cell? ⟨wr.heap.size, 0, none⟩ = some (.int .i64 ix) ∧ w'.cell? ⟨wr.heap.size, 1, none⟩ = some (.string nm) ∧ Below wr.heap.size wr w') (by kernel_rfl) ?_ (fun hHeld => ?_)
         · exact ⟨by simp, by simp, ((Below.refl _ _).alloc (Nat.le_refl _) _).drew⟩
         refine KD (i := 0) (oi := ⟨some 19, _, _, _, _, _⟩) (v := ?_) rfl (by kernel_rfl) (by kernel_rfl) (by kernel_rfl) (fun _ _ _ h => h) (Or.inl ⟨by kernel_rfl, ?_⟩) hHeld ?_
         rotate_left
         · intro w1 hSw; (try dsimp only at hSw); go_simp <;> with_reducible rfl
         try simp only [Act.put, KA, KB, KC]
         refine KD (i := 1) (oi := ⟨some 20, _, _, _, _, _⟩) (v := ?_) rfl (by kernel_rfl) (by kernel_rfl) (by kernel_rfl) (fun _ _ _ h => h) (Or.inl ⟨by kernel_rfl, ?_⟩) hHeld ?_
         rotate_left
         · intro w1 hSw; (try dsimp only at hSw); go_simp <;> with_reducible rfl
         try simp only [Act.put, KA, KB, KC]
         refine KD (i := 2) (oi := ⟨some 21, _, _, _, _, _⟩) (v := ?_) rfl (by kernel_rfl) (by kernel_rfl) (by kernel_rfl) (fun _ _ _ h => h) (Or.inl ⟨by kernel_rfl, ?_⟩) hHeld ?_
         rotate_left
         · intro w1 hSw; (try dsimp only at hSw); go_simp <;> with_reducible rfl
         try simp only [Act.put, KA, KB, KC]
         refine KD (i := 4) (oi := ⟨some 23, _, _, _, _, _⟩) (v := ?_) rfl (by kernel_rfl) (by kernel_rfl) (by kernel_rfl) (fun _ _ _ h => h) (Or.inl ⟨by kernel_rfl, ?_⟩) hHeld ?_
         rotate_left
         · intro w1 hSw; (try dsimp only at hSw); go_simp <;> with_reducible rfl
         try simp only [Act.put, KA, KB, KC]
         refine KD (i := 5) (oi := ⟨some 24, _, _, _, _, _⟩) (v := ?_) rfl (by kernel_rfl) (by kernel_rfl) (by kernel_rfl) (fun _ _ _ h => h) (Or.inl ⟨by kernel_rfl, ?_⟩) hHeld ?_
         rotate_left
         · intro w1 hSw; (try dsimp only at hSw); go_simp <;> with_reducible rfl
         try simp only [Act.put, KA, KB, KC]
         refine KD (i := 9) (oi := ⟨some 28, _, _, _, _, _⟩) (v := ?_) rfl (by kernel_rfl) (by kernel_rfl) (by kernel_rfl) (fun _ _ _ h => h) (Or.inl ⟨by kernel_rfl, ?_⟩) hHeld ?_
         rotate_left
         · intro w1 hSw; (try dsimp only at hSw); go_simp <;> with_reducible rfl
         try simp only [Act.put, KA, KB, KC]
         refine KD (i := 10) (oi := ⟨some 29, _, _, _, _, _⟩) (v := ?_) rfl (by kernel_rfl) (by kernel_rfl) (by kernel_rfl) (fun _ _ _ h => h) (Or.inl ⟨by kernel_rfl, ?_⟩) hHeld ?_
         rotate_left
         · intro w1 hSw; (try dsimp only at hSw); go_simp <;> with_reducible rfl
         try simp only [Act.put, KA, KB, KC]
         refine KG (rs := [3]) (by kernel_rfl) (by simp) ?_
         refine KE rfl (fun K hK => ?_) KF
         go_simp
         go_at_call 139
         refine (checkIndex_any _ _ _).mono ?_
         rintro e w1 ⟨rfl, rfl⟩
         try go_simp
         refine hK.out _ _ ?_ (fun hHeld => ?_)
         · exact hHeld
         clear hK K
         try simp only [Act.put, KA, KB, KC]
         refine KG (rs := [6]) (by kernel_rfl) (by simp) ?_
         refine KE rfl (fun K hK => ?_) KF
         go_simp
         go_at_call 44
         refine (isName_any _ _).mono ?_
         rintro e w1 ⟨rfl, rfl⟩
         try go_simp
         refine hK.out _ _ ?_ (fun hHeld => ?_)
         · exact hHeld
         clear hK K
         try simp only [Act.put, KA, KB, KC]
         refine KD (i := 7) (oi := ⟨some 26, _, _, _, _, _⟩) (v := ?_) rfl (by kernel_rfl) (by kernel_rfl) (by kernel_rfl) (fun _ _ _ h => h) (Or.inl ⟨by kernel_rfl, ?_⟩) hHeld ?_
         rotate_left
         · intro w1 hSw; (try dsimp only at hSw); go_simp <;> with_reducible rfl
         try simp only [Act.put, KA, KB, KC]
         refine KG (rs := [8]) (by kernel_rfl) (by simp) ?_
         refine KE rfl (fun K hK => ?_) KF
         go_simp
         go_at_call 96
         refine (failed_any _ _ _).mono ?_
         rintro e w1 ⟨rfl, rfl⟩
         try go_simp
         refine hK.out _ _ ?_ (fun hHeld => ?_)
         · exact hHeld
         clear hK K
         try simp only [Act.put, KA, KB, KC]
         refine KD (i := 11) (oi := ⟨some 30, _, _, _, _, _⟩) (v := ?_) rfl (by kernel_rfl) (by kernel_rfl) (by kernel_rfl) (fun _ _ _ h => h) (Or.inl ⟨by kernel_rfl, ?_⟩) hHeld ?_
         rotate_left
         · intro w1 hSw; (try dsimp only at hSw); go_simp <;> with_reducible rfl
         try simp only [Act.put, KA, KB, KC]
         refine KD (i := 12) (v := undef) rfl (by kernel_rfl) (by kernel_rfl) (by kernel_rfl) (fun _ _ _ h => h) (Or.inr ⟨by kernel_rfl, rfl⟩) hHeld ?_
         try simp only [Act.put, KA, KB, KC]
         refine KD (i := 13) (v := undef) rfl (by kernel_rfl) (by kernel_rfl) (by kernel_rfl) (fun _ _ _ h => h) (Or.inr ⟨by kernel_rfl, rfl⟩) hHeld ?_
         try simp only [Act.put, KA, KB, KC]
         refine KD (i := 14) (v := undef) rfl (by kernel_rfl) (by kernel_rfl) (by kernel_rfl) (fun _ _ _ h => h) (Or.inr ⟨by kernel_rfl, rfl⟩) hHeld ?_
         try simp only [Act.put, KA, KB, KC]
         refine KD (i := 15) (v := undef) rfl (by kernel_rfl) (by kernel_rfl) (by kernel_rfl) (fun _ _ _ h => h) (Or.inr ⟨by kernel_rfl, rfl⟩) hHeld ?_
         try simp only [Act.put, KA, KB, KC]
         refine KD (i := 16) (v := undef) rfl (by kernel_rfl) (by kernel_rfl) (by kernel_rfl) (fun _ _ _ h => h) (Or.inr ⟨by kernel_rfl, rfl⟩) hHeld ?_
         try simp only [Act.put, KA, KB, KC]
         refine KD (i := 17) (v := undef) rfl (by kernel_rfl) (by kernel_rfl) (by kernel_rfl) (fun _ _ _ h => h) (Or.inr ⟨by kernel_rfl, rfl⟩) hHeld ?_
         try simp only [Act.put, KA, KB, KC]
         refine KD (i := 18) (v := undef) rfl (by kernel_rfl) (by kernel_rfl) (by kernel_rfl) (fun _ _ _ h => h) (Or.inr ⟨by kernel_rfl, rfl⟩) hHeld ?_
         try simp only [Act.put, KA, KB, KC]
         refine KD (i := 19) (v := undef) rfl (by kernel_rfl) (by kernel_rfl) (by kernel_rfl) (fun _ _ _ h => h) (Or.inr ⟨by kernel_rfl, rfl⟩) hHeld ?_
         try simp only [Act.put, KA, KB, KC]
         refine KD (i := 20) (v := undef) rfl (by kernel_rfl) (by kernel_rfl) (by kernel_rfl) (fun _ _ _ h => h) (Or.inr ⟨by kernel_rfl, rfl⟩) hHeld ?_
         try simp only [Act.put, KA, KB, KC]
         refine KD (i := 21) (oi := ⟨some 40, _, _, _, _, _⟩) (v := ?_) rfl (by kernel_rfl) (by kernel_rfl) (by kernel_rfl) (fun _ _ _ h => h) (Or.inl ⟨by kernel_rfl, ?_⟩) hHeld ?_
         rotate_left
         · intro w1 hSw; (try dsimp only at hSw); go_simp <;> with_reducible rfl
         try simp only [Act.put, KA, KB, KC]
         refine KG (rs := [22]) (by kernel_rfl) (by simp) ?_
         refine KE rfl (fun K hK => ?_) KF
         go_simp
         go_at_call 96
         refine (failed_any _ _ _).mono ?_
         rintro e w1 ⟨rfl, rfl⟩
         try go_simp
         refine hK.out _ _ ?_ (fun hHeld => ?_)
         · exact hHeld
         clear hK K
         try simp only [Act.put, KA, KB, KC]
         refine KG (rs := [23]) (by kernel_rfl) (by simp) ?_
         refine KE rfl (fun K hK => ?_) KF
         go_simp
         refine hK.out _ _ ?_ (fun hHeld => ?_)
         · exact ⟨keepC hHeld.1 ((Below.refl _ _).alloc (Nat.le_refl _) _), keepC hHeld.2.1 ((Below.refl _ _).alloc (Nat.le_refl _) _), hHeld.2.2.trans ((((Below.refl _ _).alloc (Nat.le_refl _) _)).mono hHeld.2.2.size)⟩
         clear hK K
         try simp only [Act.put, KA, KB, KC]
         refine KG (rs := [24]) (by kernel_rfl) (by simp) ?_
         refine KE rfl (fun K hK => ?_) KF
         go_simp
         go_at_call 76
         refine (firstV_any _ _ _ [whenI (decide (ix < 0) || decide (n ≤ ix)) 10, whenI (!nameL nm.data.toList) 8, whenI false 11] _ ?_ rfl (by simp)).mono ?_
         · exact Rd.new _ _ _ _ (by simp)
         rintro e w1 ⟨rfl, rfl⟩
         try go_simp
         refine hK.out _ _ ?_ (fun hHeld => ?_)
         · exact hHeld
         clear hK K
         try simp only [Act.put, KA, KB, KC]
         refine KD (i := 25) (oi := ⟨some 8, _, _, _, _, _⟩) (v := ?_) rfl (by kernel_rfl) (by kernel_rfl) (by kernel_rfl) (fun _ _ _ h => h) (Or.inl ⟨by kernel_rfl, ?_⟩) hHeld ?_
         rotate_left
         · intro w1 hSw; (try dsimp only at hSw); go_simp <;> with_reducible rfl
         try simp only [Act.put, KA, KB, KC]
         refine wpAnyH_done (by kernel_rfl) ?_ _
         go_wp2_with fail
         go_meet
         exact ⟨by rw [he.out], hHeld.2.2⟩
       · obtain ⟨j, rfl⟩ : ∃ j, k = j + 1 := ⟨k - 1, by omega⟩
         obtain ⟨b2, off2, hAb2, hp1, hp2⟩ := Rd.mark (HA.out.below HB.out) (show j < ms.length by omega)
         cases hAb2
         obtain ⟨ip, hip⟩ : ∃ ip, ip = ms[j].1 := ⟨_, rfl⟩
         obtain ⟨np, hnp⟩ : ∃ np, np = ms[j].2 := ⟨_, rfl⟩
         have hgj : ms.getD j (0, ByteArray.empty) = (ip, np) := by rw [hip, hnp, List.getD_eq_getElem?_getD, List.getElem?_eq_getElem (by omega)]; rfl
         have Hgj := Lib.hid hgj
         rw [← hip] at hp1; rw [← hnp] at hp2
         clear hip hnp hgj
         have hwj : IntKind.i64.wrap (j : Int) = (j : Int) := IntWalk.i64_in _ (by omega)
         have hj1 : (j : Int) < (ms.length : Int) := by omega
         have hj0 : (0 : Int) ≤ (j : Int) := by omega
         have he : Hid (er = firstI [whenI (decide (ix < 0) || decide (n ≤ ix)) 10, whenI (!nameL nm.data.toList) 8, whenI (!decide (ip < ix)) 11]) := by
          unfold Hid; rw [Her.out, errAt, Nat.add_sub_cancel, Hgk.out, Hgj.out]; simp
         refine wp_region_held_drew (S := fun w' => w'.cell? ⟨wr.heap.size, 0, none⟩ = some (.int .i64 ix) ∧ w'.cell? ⟨wr.heap.size, 1, none⟩ = some (.string nm) ∧ w'.cell? ⟨b, off + j * 2, none⟩ = some (.int .i64 ip) ∧ w'.cell? ⟨b, off + j * 2 + 1, none⟩ = some (.string np) ∧ Below wr.heap.size wr w') (by kernel_rfl) ?_ (fun hHeld => ?_)
         · exact ⟨by simp, by simp, keepC hp1 (((Below.refl _ _).alloc (Nat.le_refl _) _).drew), keepC hp2 (((Below.refl _ _).alloc (Nat.le_refl _) _).drew), ((Below.refl _ _).alloc (Nat.le_refl _) _).drew⟩
         refine KD (i := 0) (oi := ⟨some 19, _, _, _, _, _⟩) (v := ?_) rfl (by kernel_rfl) (by kernel_rfl) (by kernel_rfl) (fun _ _ _ h => h) (Or.inl ⟨by kernel_rfl, ?_⟩) hHeld ?_
         rotate_left
         · intro w1 hSw; (try dsimp only at hSw); go_simp <;> with_reducible rfl
         try simp only [Act.put, KA, KB, KC]
         refine KD (i := 1) (oi := ⟨some 20, _, _, _, _, _⟩) (v := ?_) rfl (by kernel_rfl) (by kernel_rfl) (by kernel_rfl) (fun _ _ _ h => h) (Or.inl ⟨by kernel_rfl, ?_⟩) hHeld ?_
         rotate_left
         · intro w1 hSw; (try dsimp only at hSw); go_simp <;> with_reducible rfl
         try simp only [Act.put, KA, KB, KC]
         refine KD (i := 2) (oi := ⟨some 21, _, _, _, _, _⟩) (v := ?_) rfl (by kernel_rfl) (by kernel_rfl) (by kernel_rfl) (fun _ _ _ h => h) (Or.inl ⟨by kernel_rfl, ?_⟩) hHeld ?_
         rotate_left
         · intro w1 hSw; (try dsimp only at hSw); go_simp <;> with_reducible rfl
         try simp only [Act.put, KA, KB, KC]
         refine KD (i := 4) (oi := ⟨some 23, _, _, _, _, _⟩) (v := ?_) rfl (by kernel_rfl) (by kernel_rfl) (by kernel_rfl) (fun _ _ _ h => h) (Or.inl ⟨by kernel_rfl, ?_⟩) hHeld ?_
         rotate_left
         · intro w1 hSw; (try dsimp only at hSw); go_simp <;> with_reducible rfl
         try simp only [Act.put, KA, KB, KC]
         refine KD (i := 5) (oi := ⟨some 24, _, _, _, _, _⟩) (v := ?_) rfl (by kernel_rfl) (by kernel_rfl) (by kernel_rfl) (fun _ _ _ h => h) (Or.inl ⟨by kernel_rfl, ?_⟩) hHeld ?_
         rotate_left
         · intro w1 hSw; (try dsimp only at hSw); go_simp <;> with_reducible rfl
         try simp only [Act.put, KA, KB, KC]
         refine KD (i := 9) (oi := ⟨some 28, _, _, _, _, _⟩) (v := ?_) rfl (by kernel_rfl) (by kernel_rfl) (by kernel_rfl) (fun _ _ _ h => h) (Or.inl ⟨by kernel_rfl, ?_⟩) hHeld ?_
         rotate_left
         · intro w1 hSw; (try dsimp only at hSw); go_simp <;> with_reducible rfl
         try simp only [Act.put, KA, KB, KC]
         refine KD (i := 10) (oi := ⟨some 29, _, _, _, _, _⟩) (v := ?_) rfl (by kernel_rfl) (by kernel_rfl) (by kernel_rfl) (fun _ _ _ h => h) (Or.inl ⟨by kernel_rfl, ?_⟩) hHeld ?_
         rotate_left
         · intro w1 hSw; (try dsimp only at hSw); go_simp <;> with_reducible rfl
         try simp only [Act.put, KA, KB, KC]
         refine KG (rs := [3]) (by kernel_rfl) (by simp) ?_
         refine KE rfl (fun K hK => ?_) KF
         go_simp
         go_at_call 139
         refine (checkIndex_any _ _ _).mono ?_
         rintro e w1 ⟨rfl, rfl⟩
         try go_simp
         refine hK.out _ _ ?_ (fun hHeld => ?_)
         · exact hHeld
         clear hK K
         try simp only [Act.put, KA, KB, KC]
         refine KG (rs := [6]) (by kernel_rfl) (by simp) ?_
         refine KE rfl (fun K hK => ?_) KF
         go_simp
         go_at_call 44
         refine (isName_any _ _).mono ?_
         rintro e w1 ⟨rfl, rfl⟩
         try go_simp
         refine hK.out _ _ ?_ (fun hHeld => ?_)
         · exact hHeld
         clear hK K
         try simp only [Act.put, KA, KB, KC]
         refine KD (i := 7) (oi := ⟨some 26, _, _, _, _, _⟩) (v := ?_) rfl (by kernel_rfl) (by kernel_rfl) (by kernel_rfl) (fun _ _ _ h => h) (Or.inl ⟨by kernel_rfl, ?_⟩) hHeld ?_
         rotate_left
         · intro w1 hSw; (try dsimp only at hSw); go_simp <;> with_reducible rfl
         try simp only [Act.put, KA, KB, KC]
         refine KG (rs := [8]) (by kernel_rfl) (by simp) ?_
         refine KE rfl (fun K hK => ?_) KF
         go_simp
         go_at_call 96
         refine (failed_any _ _ _).mono ?_
         rintro e w1 ⟨rfl, rfl⟩
         try go_simp
         refine hK.out _ _ ?_ (fun hHeld => ?_)
         · exact hHeld
         clear hK K
         try simp only [Act.put, KA, KB, KC]
         refine KD (i := 11) (oi := ⟨some 30, _, _, _, _, _⟩) (v := ?_) rfl (by kernel_rfl) (by kernel_rfl) (by kernel_rfl) (fun _ _ _ h => h) (Or.inl ⟨by kernel_rfl, ?_⟩) hHeld ?_
         rotate_left
         · intro w1 hSw; (try dsimp only at hSw); go_simp <;> with_reducible rfl
         try simp only [Act.put, KA, KB, KC]
         refine KD (i := 12) (oi := ⟨some 31, _, _, _, _, _⟩) (v := ?_) rfl (by kernel_rfl) (by kernel_rfl) (by kernel_rfl) (fun _ _ _ h => h) (Or.inl ⟨by kernel_rfl, ?_⟩) hHeld ?_
         rotate_left
         · intro w1 hSw; (try dsimp only at hSw); go_simp <;> with_reducible rfl
         try simp only [Act.put, KA, KB, KC]
         refine KD (i := 13) (oi := ⟨some 32, _, _, _, _, _⟩) (v := ?_) rfl (by kernel_rfl) (by kernel_rfl) (by kernel_rfl) (fun _ _ _ h => h) (Or.inl ⟨by kernel_rfl, ?_⟩) hHeld ?_
         rotate_left
         · intro w1 hSw; (try dsimp only at hSw); go_simp <;> with_reducible rfl
         try simp only [Act.put, KA, KB, KC]
         refine KD (i := 14) (oi := ⟨some 33, _, _, _, _, _⟩) (v := ?_) rfl (by kernel_rfl) (by kernel_rfl) (by kernel_rfl) (fun _ _ _ h => h) (Or.inl ⟨by kernel_rfl, ?_⟩) hHeld ?_
         rotate_left
         · intro w1 hSw; (try dsimp only at hSw); go_simp <;> with_reducible rfl
         try simp only [Act.put, KA, KB, KC]
         refine KD (i := 15) (oi := ⟨some 34, _, _, _, _, _⟩) (v := ?_) rfl (by kernel_rfl) (by kernel_rfl) (by kernel_rfl) (fun _ _ _ h => h) (Or.inl ⟨by kernel_rfl, ?_⟩) hHeld ?_
         rotate_left
         · intro w1 hSw; (try dsimp only at hSw); go_simp <;> with_reducible rfl
         try simp only [Act.put, KA, KB, KC]
         refine KD (i := 16) (oi := ⟨some 35, _, _, _, _, _⟩) (v := ?_) rfl (by kernel_rfl) (by kernel_rfl) (by kernel_rfl) (fun _ _ _ h => h) (Or.inl ⟨by kernel_rfl, ?_⟩) hHeld ?_
         rotate_left
         · intro w1 hSw; (try dsimp only at hSw); go_simp <;> with_reducible rfl
         try simp only [Act.put, KA, KB, KC]
         refine KD (i := 17) (oi := ⟨some 36, _, _, _, _, _⟩) (v := ?_) rfl (by kernel_rfl) (by kernel_rfl) (by kernel_rfl) (fun _ _ _ h => h) (Or.inl ⟨by kernel_rfl, ?_⟩) hHeld ?_
         rotate_left
         · intro w1 hSw; (try dsimp only at hSw); go_simp <;> with_reducible rfl
         try simp only [Act.put, KA, KB, KC]
         refine KD (i := 18) (oi := ⟨some 37, _, _, _, _, _⟩) (v := ?_) rfl (by kernel_rfl) (by kernel_rfl) (by kernel_rfl) (fun _ _ _ h => h) (Or.inl ⟨by kernel_rfl, ?_⟩) hHeld ?_
         rotate_left
         · intro w1 hSw; (try dsimp only at hSw); go_simp <;> with_reducible rfl
         try simp only [Act.put, KA, KB, KC]
         refine KG (rs := [19]) (by kernel_rfl) (by simp) ?_
         refine KE rfl (fun K hK => ?_) KF
         go_simp
         go_at_call 138
         refine (after_any _ _ _ _ _).mono ?_
         rintro e w1 ⟨rfl, hb1⟩
         try go_simp
         refine hK.out _ _ ?_ (fun hHeld => ?_)
         · exact ⟨keepC hHeld.1 hb1, keepC hHeld.2.1 hb1, keepC hHeld.2.2.1 hb1, keepC hHeld.2.2.2.1 hb1, hHeld.2.2.2.2.trans ((hb1).mono hHeld.2.2.2.2.size)⟩
         clear hK K
         try simp only [Act.put, KA, KB, KC]
         refine KD (i := 20) (oi := ⟨some 39, _, _, _, _, _⟩) (v := ?_) rfl (by kernel_rfl) (by kernel_rfl) (by kernel_rfl) (fun _ _ _ h => h) (Or.inl ⟨by kernel_rfl, ?_⟩) hHeld ?_
         rotate_left
         · intro w1 hSw; (try dsimp only at hSw); go_simp <;> with_reducible rfl
         try simp only [Act.put, KA, KB, KC]
         refine KD (i := 21) (oi := ⟨some 40, _, _, _, _, _⟩) (v := ?_) rfl (by kernel_rfl) (by kernel_rfl) (by kernel_rfl) (fun _ _ _ h => h) (Or.inl ⟨by kernel_rfl, ?_⟩) hHeld ?_
         rotate_left
         · intro w1 hSw; (try dsimp only at hSw); go_simp <;> with_reducible rfl
         try simp only [Act.put, KA, KB, KC]
         refine KG (rs := [22]) (by kernel_rfl) (by simp) ?_
         refine KE rfl (fun K hK => ?_) KF
         go_simp
         go_at_call 96
         refine (failed_any _ _ _).mono ?_
         rintro e w1 ⟨rfl, rfl⟩
         try go_simp
         refine hK.out _ _ ?_ (fun hHeld => ?_)
         · exact hHeld
         clear hK K
         try simp only [Act.put, KA, KB, KC]
         refine KG (rs := [23]) (by kernel_rfl) (by simp) ?_
         refine KE rfl (fun K hK => ?_) KF
         go_simp
         refine hK.out _ _ ?_ (fun hHeld => ?_)
         · exact ⟨keepC hHeld.1 ((Below.refl _ _).alloc (Nat.le_refl _) _), keepC hHeld.2.1 ((Below.refl _ _).alloc (Nat.le_refl _) _), keepC hHeld.2.2.1 ((Below.refl _ _).alloc (Nat.le_refl _) _), keepC hHeld.2.2.2.1 ((Below.refl _ _).alloc (Nat.le_refl _) _), hHeld.2.2.2.2.trans ((((Below.refl _ _).alloc (Nat.le_refl _) _)).mono hHeld.2.2.2.2.size)⟩
         clear hK K
         try simp only [Act.put, KA, KB, KC]
         refine KG (rs := [24]) (by kernel_rfl) (by simp) ?_
         refine KE rfl (fun K hK => ?_) KF
         go_simp
         go_at_call 76
         refine (firstV_any _ _ _ [whenI (decide (ix < 0) || decide (n ≤ ix)) 10, whenI (!nameL nm.data.toList) 8, whenI (!decide (ip < ix)) 11] _ ?_ rfl (by simp)).mono ?_
         · exact Rd.new _ _ _ _ (by simp)
         rintro e w1 ⟨rfl, rfl⟩
         try go_simp
         refine hK.out _ _ ?_ (fun hHeld => ?_)
         · exact hHeld
         clear hK K
         try simp only [Act.put, KA, KB, KC]
         refine KD (i := 25) (oi := ⟨some 8, _, _, _, _, _⟩) (v := ?_) rfl (by kernel_rfl) (by kernel_rfl) (by kernel_rfl) (fun _ _ _ h => h) (Or.inl ⟨by kernel_rfl, ?_⟩) hHeld ?_
         rotate_left
         · intro w1 hSw; (try dsimp only at hSw); go_simp <;> with_reducible rfl
         try simp only [Act.put, KA, KB, KC]
         refine wpAnyH_done (by kernel_rfl) ?_ _
         go_wp2_with fail
         go_meet
         exact ⟨by rw [he.out], hHeld.2.2.2.2⟩
      case rest =>
       obtain ⟨rfl, hbw⟩ := hcut
       have HBw := Lib.hid (HB.out.trans (hbw.mono HB.out.size))
       clear hbw
       by_cases hz : er = 0
       · subst hz
         go_wp2
         go_roundg (ms.length - (k + 1))
         case measure => omega
         case rel => exact ⟨k + 1, by omega, by go_num, rfl, by show _ = _; rw [← H.out, Hd.out, if_pos Her.out.symm], HBw.out⟩
       · have hz' : (er != 0) = true := by simpa using hz
         have Hz := Lib.hid hz; clear hz
         go_wp2
         go_ret
         exact ⟨ret_int (by rw [← H.out, Hd.out, if_neg (by rw [← Her.out]; exact Hz.out), ← Her.out]), HBw.out⟩
    · obtain rfl : k = ms.length := by omega
      go_wp2
      go_ret
      exact ⟨ret_int (by rw [← H.out, List.drop_of_length_le (by rw [errL_length]; omega)]; rfl), HB.out⟩
def shiftM (by' : Int) (m : Int × ByteArray) : Int × ByteArray := (wrap64 (m.1 + by'), m.2)
set_option maxHeartbeats 400000 in
theorem moved1_any (a d : Int) (s : ByteArray) (g : Nat) (w : World) (hc : w.cell? ⟨g, 0, none⟩ = some (.int .i64 d)) : Calls Tryz.prog 136 #[.agg #[.int .i64 a, .string s], .pointer (some ⟨g, 0, none⟩)] w fun e w' => e = .returned (.agg #[.int .i64 (wrap64 (a + d)), .string s]) ∧ Below w.heap.size w w' := by
 have hlt := World.block_lt_of_cell? w _ hc
 have hlt2 : g < w.heap.size := hlt
 clear hlt
 go_enter Tryz.func136, Tryz.ntmps136
 go_wp2
 exact bodyPost_ret (v := .agg #[.int .i64 (wrap64 (a + d)), .string s]) (by simp [results, Tryz.results136, go_sem]) rfl ⟨rfl, ((Below.refl _ _).alloc (Nat.le_refl _) _).alloc (by simp) _⟩
theorem make2 {P : Program} (t e : TypeId) (z : Value) (z0 z1 : Value) (bytes : Nat) (ht : P.underlying t = some (.slice e)) (hinfo : (P.info? e).map (fun i => (i.zero, i.size, i.bytes)) = some (some z, 2, bytes)) (hz : z.cells = #[z0, z1])
 (n : Nat) (hn : bytes * n ≤ 281474976710656) (h63 : n ≤ 9223372036854775807) (w : World) :
 (Instr.makeSlice t (.int .i64 (n : Int)) (.int .i64 (n : Int))).run P w = .ok (.slice (some ⟨w.heap.size, 0, none⟩) n n) (w.alloc (.cells (madeCells #[z0, z1] (n * 2)) e)) := by
 obtain ⟨i, hi, h1, h2, h3⟩ := info_parts hinfo
 have hb : (i.bytes : Int) * (n : Int) ≤ 281474976710656 := by
  rw [h3]
  have h : ((bytes * n : Nat) : Int) ≤ 281474976710656 := by omega
  rwa [Int.natCast_mul] at h
 have h := run_make w t e i z ht hi h1 .i64 .i64 n n (by omega) (by omega) hb (by omega)
 rw [Int.toNat_natCast, h2, hz] at h
 exact h
theorem set2 (X M : List Value) (k : Nat) (a b : Value) (hX : X.length = k * 2) (hM : k * 2 + 2 ≤ M.length) :
 ((X ++ M.drop (k * 2)).set (k * 2) a).set (k * 2 + 1) b = X ++ [a, b] ++ M.drop ((k + 1) * 2) := by
 have e1 : M.drop (k * 2) = M[k * 2] :: M[k * 2 + 1] :: M.drop (k * 2 + 2) := by
  rw [List.drop_eq_getElem_cons (by omega), List.drop_eq_getElem_cons (by omega)]
 rw [e1, List.set_append_right _ _ (by omega), hX, Nat.sub_self, List.set_cons_zero, List.set_append_right _ _ (by omega), hX, Nat.add_sub_cancel_left, List.set_cons_succ, List.set_cons_zero, show (k + 1) * 2 = k * 2 + 2 by omega, List.append_assoc]
 rfl
theorem info158 : (Tryz.prog.info? 117).map (fun i => (i.zero, i.size, i.bytes)) = some (some (.agg #[.int .i64 0, .string ⟨#[]⟩]), 2, 24) := by kernel_rfl
set_option maxRecDepth 100000 in
set_option maxHeartbeats 1000000 in
theorem mappedMark_any (A : Option Addr) (n c : Nat) (ms : List (Int × ByteArray)) (d : Int) (gb : Nat) (w : World) (hA : Rd w A (markC ms)) (hn : n = ms.length) (hm : ms.length ≤ 1000000) (hd : w.cell? ⟨gb, 0, none⟩ = some (.int .i64 d)) :
 Calls Tryz.prog 135 #[.slice A n c, .func (.func 136) #[] #[.pointer (some ⟨gb, 0, none⟩)]] w fun e w' => ∃ g, e = .returned (.slice (some ⟨g, 0, none⟩) n n) ∧ Row w' g 117 (markC (ms.map (shiftM d))) ∧ w.heap.size ≤ g ∧ Below w.heap.size w w' := by
 subst hn
 have hmk := fun W : World => make2 (P := Tryz.prog) 31 117 (.agg #[.int .i64 0, .string ⟨#[]⟩]) (.int .i64 0) (.string ⟨#[]⟩) 24 Tryz.underlying31 info158 rfl ms.length (by omega) (by omega) W
 have hMl : (madeCells #[.int .i64 0, .string ⟨#[]⟩] (ms.length * 2)).toList.length = ms.length * 2 := by simp [size_madeCells]
 obtain ⟨M, hM⟩ : ∃ M : List Value, (madeCells #[.int .i64 0, .string ⟨#[]⟩] (ms.length * 2)) = M.toArray := ⟨_, (Array.toArray_toList ..).symm⟩
 rw [hM] at hmk hMl
 have HMl : Hid (M.length = ms.length * 2) := by unfold Hid; simpa using hMl
 have HA := Lib.hid hA
 have HD := Lib.hid hd
 clear hM hMl hA hd
 go_enter Tryz.func135, Tryz.ntmps135
 go_wp2
 go_loopw [13] (fun i wr => ∃ k : Nat, k ≤ ms.length ∧ i = .int .i64 k ∧ Hid (Row wr w.heap.size 117 (markC ((ms.map (shiftM d)).take k) ++ M.drop (k * 2))) ∧ Hid (Below w.heap.size w wr)) (fun i _ => ms.length - (intOf i).toNat)
 case atStart => exact ⟨0, Nat.zero_le _, rfl, by have := Row.new w 117 M; simpa [markC, Hid] using this, (Below.refl _ _).alloc (Nat.le_refl _) _⟩
 case round =>
  obtain ⟨k, hk, rfl, Hrow, Hb⟩ := hrel
  by_cases hlt : k < ms.length
  · obtain ⟨b, off, hAb, hc1, hc2⟩ := Rd.mark (HA.out.below Hb.out) hlt
    subst hAb
    have hcd := keepC HD.out Hb.out
    have HCD : Hid (∀ o : Obj, (wr.alloc o).cell? ⟨gb, 0, none⟩ = some (.int .i64 d)) := fun o => keepC hcd ((Below.refl _ _).alloc (Nat.le_refl _) o)
    obtain ⟨ix, hix⟩ : ∃ ix, ix = ms[k].1 := ⟨_, rfl⟩
    obtain ⟨nm, hnm⟩ : ∃ nm, nm = ms[k].2 := ⟨_, rfl⟩
    rw [← hix] at hc1; rw [← hnm] at hc2
    have hset := set2 (markC ((ms.map (shiftM d)).take k)) M k (.int .i64 (wrap64 (ix + d))) (.string nm) (by rw [markC_length]; simp; omega) (by rw [HMl.out]; omega)
    have htk : markC ((ms.map (shiftM d)).take (k + 1)) = markC ((ms.map (shiftM d)).take k) ++ [.int .i64 (wrap64 (ix + d)), .string nm] := by
     rw [List.take_succ_eq_append_getElem (by simpa using hlt), markC_app]
     simp [markC, shiftM, hix, hnm]
    rw [← htk] at hset
    have Hset := Lib.hid hset
    clear hset htk hix hnm hcd
    go_wp2_with fail
    refine (moved1_any ix d nm gb _ (HCD.out _)).mono ?_
    rintro e w1 ⟨rfl, hb1⟩
    have Hrow1 := Lib.hid ((Hrow.out.alloc (.cells #[.int .i64 ix, .string nm] 117)).old hb1)
    have Hb1 : Hid (Below w.heap.size w w1) := (Hb.out.alloc Hb.out.size _).trans (hb1.mono (by have := Hb.out.size; simp; omega))
    have hl1 : k * 2 + 1 < (markC ((ms.map (shiftM d)).take k) ++ M.drop (k * 2)).length := by rw [List.length_append, markC_length, List.length_drop, HMl.out]; simp; omega
    have hX : (markC ((ms.map (shiftM d)).take k)).length = k * 2 := by rw [markC_length]; simp; omega
    obtain ⟨v0, hv0⟩ : ∃ v0, w1.cell? ⟨w.heap.size, k * 2, none⟩ = some v0 := ⟨_, Hrow1.out.cellAt (by omega)⟩
    obtain ⟨v1, hv1⟩ : ∃ v1, w1.cell? ⟨w.heap.size, k * 2 + 1, none⟩ = some v1 := ⟨_, Hrow1.out.cellAt hl1⟩
    have hf0 := Hrow1.out.free (k * 2)
    have hf1 := Hrow1.out.free (k * 2 + 1)
    clear hb1 hl1 hX
    go_wp2
    go_roundw
    case rel => exact ⟨k + 1, by omega, by go_num, by show Row _ _ _ _; rw [← Hset.out]; exact (Hrow1.out.set (k * 2) _).set (k * 2 + 1) _, (Hb1.out.setCell (by simp) _).setCell (by simp) _⟩
    case measure => simp [intOf]; omega
  · obtain rfl : k = ms.length := by omega
    go_wp2
    go_ret
    exact ⟨_, rfl, by have h := Hrow.out; rw [List.take_of_length_le (by simp), List.drop_of_length_le (by rw [HMl.out]; omega), List.append_nil] at h; exact h, Nat.le_refl _, Hb.out⟩
end Go.Proofs.YtjdniebjhilooaaGreatDoor
