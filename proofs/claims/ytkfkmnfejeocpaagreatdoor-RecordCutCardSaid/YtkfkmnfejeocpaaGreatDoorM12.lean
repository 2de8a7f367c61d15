import Derived.Test.YtkfkmnfejeocpaaGreatDoorM10
import Derived.Lib.OthersKept
namespace Go.Proofs.YtkfkmnfejeocpaaGreatDoor
set_option linter.all false
open Go.RowKit Go.Fl
def KA := @List.setIfInBounds_toArray
def KD := @wpAnyH_take
def KE := @AllReadyH.cons
def KF := @AllReadyH.nil
def KG := @wpAnyH_ready
def KB := @List.set_cons_zero
def KC := @List.set_cons_succ
def tickI (st sp i : Int) : Int := wrap64 (st + wrap64 (i * sp))
set_option maxHeartbeats 400000 in
theorem tick_any (st sp i : Int) (A1 A2 : Option Addr) (n1 c1 n2 c2 : Nat) (w : World) : Calls Tryz.prog 82 #[.agg #[.int .i64 st, .int .i64 sp, .slice A1 n1 c1, .slice A2 n2 c2], .int .i64 i] w fun e w' => e = .returned (.int .i64 (tickI st sp i)) ∧ Below w.heap.size w w' := by
 go_enter Tryz.func82, Tryz.ntmps82
 go_wp2
 go_ret
 exact ⟨rfl, (Below.refl _ _).alloc (Nat.le_refl _) _⟩
set_option maxHeartbeats 400000 in
theorem after_any (a b : Int) (s t : ByteArray) (w : World) : Calls Tryz.prog 140 #[.agg #[.int .i64 a, .string s], .agg #[.int .i64 b, .string t]] w fun e w' => e = .returned (.bool (decide (b < a))) ∧ Below w.heap.size w w' := by
 go_enter Tryz.func140, Tryz.ntmps140
 go_wp2
 go_ret
 exact ⟨rfl, ((Below.refl _ _).alloc (Nat.le_refl _) _).alloc (by simp) _⟩
def markC (l : List (Int × ByteArray)) : List Value := l.flatMap fun p => [.int .i64 p.1, .string p.2]
theorem markC_length (l : List (Int × ByteArray)) : (markC l).length = l.length * 2 := by
 induction l with
 | nil => rfl
 | cons p l ih => simp only [markC, List.flatMap_cons, List.length_append, List.length_cons, List.length_nil] at ih ⊢; omega
theorem markC_app (l m : List (Int × ByteArray)) : markC (l ++ m) = markC l ++ markC m := by simp [markC]
theorem markC_get (l : List (Int × ByteArray)) (k : Nat) (hk : k < l.length) : (markC l)[k * 2]? = some (.int .i64 l[k].1) ∧ (markC l)[k * 2 + 1]? = some (.string l[k].2) := by
 induction l generalizing k with
 | nil => simp at hk
 | cons p l ih =>
   match k, hk with
   | 0, _ => exact ⟨rfl, rfl⟩
   | k + 1, hk =>
     have h := ih k (by simpa using hk)
     have e1 : (k + 1) * 2 = k * 2 + 2 := by omega
     rw [e1, show k * 2 + 2 + 1 = k * 2 + 1 + 2 by omega]
     exact ⟨by simpa [markC] using h.1, by simpa [markC] using h.2⟩
theorem Rd.mark {w : World} {A : Option Addr} {l : List (Int × ByteArray)} (h : Rd w A (markC l)) {k : Nat} (hk : k < l.length) : ∃ b off, A = some ⟨b, off, none⟩ ∧ w.cell? ⟨b, off + k * 2, none⟩ = some (.int .i64 l[k].1) ∧ w.cell? ⟨b, off + k * 2 + 1, none⟩ = some (.string l[k].2) := by
 obtain ⟨h1, h2⟩ := markC_get l k hk
 obtain ⟨b, off, hA, hc1⟩ := h _ _ h1
 obtain ⟨b', off', hA', hc2⟩ := h _ _ h2
 rw [hA] at hA'
 cases hA'
 exact ⟨b, off, hA, hc1, by rw [Nat.add_assoc]; exact hc2⟩
def errAt (n : Int) (ms : List (Int × ByteArray)) (k : Nat) : Int :=
 firstI [whenI (decide ((ms.getD k (0, ByteArray.empty)).1 < 0) || decide (n ≤ (ms.getD k (0, ByteArray.empty)).1)) 10, whenI (!nameL (ms.getD k (0, ByteArray.empty)).2.data.toList) 8, whenI (decide (0 < k) && !decide ((ms.getD (k - 1) (0, ByteArray.empty)).1 < (ms.getD k (0, ByteArray.empty)).1)) 11]
def errL (n : Int) (ms : List (Int × ByteArray)) : List Int := (List.range ms.length).map (errAt n ms)
def marksI (n : Int) (ms : List (Int × ByteArray)) : Int := if 16 < ms.length then 5 else firstI (errL n ms)
theorem errL_length (n : Int) (ms : List (Int × ByteArray)) : (errL n ms).length = ms.length := by simp [errL]
theorem errL_get (n : Int) (ms : List (Int × ByteArray)) (k : Nat) (h : k < (errL n ms).length) : (errL n ms)[k] = errAt n ms k := by simp [errL]
set_option maxHeartbeats 400000 in
theorem checkIndex_any (i n : Int) (w : World) : Calls Tryz.prog 141 #[.int .i64 i, .int .i64 n] w fun e w' => e = .returned (.int .i64 (whenI (decide (i < 0) || decide (n ≤ i)) 10)) ∧ w' = w := by
 cases h : decide (i < 0) <;> cases h2 : decide (n ≤ i)
 all_goals go_enter Tryz.func141, Tryz.ntmps141
 all_goals go_wp2_with (go_at_call 81; refine (failed_any _ _ _).mono ?_; rintro e w1 ⟨rfl, rfl⟩)
 all_goals go_ret
 all_goals exact ⟨rfl, rfl⟩
set_option maxRecDepth 100000 in
set_option maxHeartbeats 2000000 in
theorem checkMarks_any (A : Option Addr) (nm cm : Nat) (n : Int) (ms : List (Int × ByteArray)) (w : World) (hA : Rd w A (markC ms)) (hn : nm = ms.length) :
 Calls Tryz.prog 120 #[.slice A nm cm, .int .i64 n] w fun e w' => e = .returned (.int .i64 (marksI n ms)) ∧ Below w.heap.size w w' := by
 subst hn
 by_cases hl : 16 < ms.length
 · have HL := Lib.hid hl
   go_enter Tryz.func120, Tryz.ntmps120
   go_wp2
   go_ret
   exact ⟨ret_int (by rw [marksI, if_pos HL.out]), Below.refl _ _⟩
 · have HL : Hid (marksI n ms = firstI (errL n ms)) := by unfold Hid; rw [marksI, if_neg hl]
   have hl16 : ms.length ≤ 16 := by omega
   have HA := Lib.hid hA
   clear hl hA
   go_enter Tryz.func120, Tryz.ntmps120
   go_wp2
   go_loopg [14] ms.length (fun g i wr => ∃ k : Nat, k ≤ ms.length ∧ i = .int .i64 k ∧ g = ms.length - k ∧ Hid (firstI ((errL n ms).drop k) = marksI n ms) ∧ Hid (Below w.heap.size w wr))
   case atStart => exact ⟨0, Nat.zero_le _, rfl, rfl, HL.out.symm, Below.refl _ _⟩
   case round =>
    obtain ⟨k, hk, rfl, hg, H, HB⟩ := hrel
    subst hg
    by_cases hlt : k < ms.length
    · obtain ⟨b, off, hAb, hc1, hc2⟩ := Rd.mark (HA.out.below HB.out) hlt
      subst hAb
      obtain ⟨ix, hix⟩ : ∃ ix, ix = ms[k].1 := ⟨_, rfl⟩
      obtain ⟨nm, hnm⟩ : ∃ nm, nm = ms[k].2 := ⟨_, rfl⟩
      have hd := firstI_drop (zs := errL n ms) (k := k) (by rw [errL_length]; exact hlt)
      rw [errL_get] at hd
      have hgk : ms.getD k (0, ByteArray.empty) = (ix, nm) := by rw [hix, hnm, List.getD_eq_getElem?_getD, List.getElem?_eq_getElem hlt]; rfl
      rw [← hix] at hc1; rw [← hnm] at hc2
      have Hd := Lib.hid hd
      have Hgk := Lib.hid hgk
      obtain ⟨er, her⟩ : ∃ er, er = errAt n ms k := ⟨_, rfl⟩
      have Her := Lib.hid her
      have Hc : Hid (wr.cell? ⟨b, off + k * 2, none⟩ = some (.int .i64 ix) ∧ wr.cell? ⟨b, off + k * 2 + 1, none⟩ = some (.string nm)) := ⟨hc1, hc2⟩
      have hnew1 : ∀ o : Obj, (wr.alloc o).heap.size = wr.heap.size + 1 := fun o => by simp
      clear hd hgk her hix hnm
      go_upto_region 7 with fail
      go_cut [8] (fun s8 wx => s8 = .int .i64 er ∧ Below wr.heap.size wr wx)
      case first =>
       by_cases hk0 : k = 0
       · have Hk0 := Lib.hid hk0
         have hd0 : decide (0 < k) = false := by simp; omega
         clear hk0
         have he : Hid (er = firstI [whenI (decide (ix < 0) || decide (n ≤ ix)) 10, whenI (!nameL nm.data.toList) 8, whenI false 11]) := by
          unfold Hid; rw [Her.out, errAt, Hgk.out]; simp [Hk0.out]
         refine wp_region_held_drew (S := fun w' => w'.cell? ⟨wr.heap.size, 0, none⟩ = some (.int .i64 ix) ∧ w'.cell? ⟨wr.heap.size, 1, none⟩ = some (.string nm) ∧ Below wr.heap.size wr w') (by kernel_rfl) ?_ (fun hHeld => ?_)
         · exact ⟨by simp, by simp, ((Below.refl _ _).alloc (Nat.le_refl _) _).drew⟩
         refine KD (i := 0) (oi := ⟨some 19, _, _, _, _, _⟩) (v := ?_) rfl (by kernel_rfl) (by kernel_rfl) (by kernel_rfl) (fun _ _ _ h => h) (Or.inl ⟨by kernel_rfl, ?_⟩) hHeld ?_
         rotate_left
         · intro w1 hSw; (try dsimp only at hSw); go_simp <;> with_reducible rfl
         try simp only [Act.put, KA, KB, KC]
         refine KD (i := 1) (oi := ⟨some 20, _, _, _, _, _⟩) (v := ?_) rfl (by kernel_rfl) (by kernel_rfl) (by kernel_rfl) (fun _ _ _ h => h) (Or.inl ⟨by kernel_rfl, ?_⟩) hHeld ?_
         rotate_left
         · intro w1 hSw; (try dsimp only at hSw); go_simp <;> with_reducible rfl
         try simp only [Act.put, KA, KB, KC]
         refine KD (i := 2) (oi := ⟨some 21, _, _, _, _, _⟩) (v := ?_) rfl (by kernel_rfl) (by kernel_rfl) (by kernel_rfl) (fun _ _ _ h => h) (Or.inl ⟨by kernel_rfl, ?_⟩) hHeld ?_
         rotate_left
         · intro w1 hSw; (try dsimp only at hSw); go_simp <;> with_reducible rfl
         try simp only [Act.put, KA, KB, KC]
         refine KD (i := 4) (oi := ⟨some 23, _, _, _, _, _⟩) (v := ?_) rfl (by kernel_rfl) (by kernel_rfl) (by kernel_rfl) (fun _ _ _ h => h) (Or.inl ⟨by kernel_rfl, ?_⟩) hHeld ?_
         rotate_left
         · intro w1 hSw; (try dsimp only at hSw); go_simp <;> with_reducible rfl
         try simp only [Act.put, KA, KB, KC]
         refine KD (i := 5) (oi := ⟨some 24, _, _, _, _, _⟩) (v := ?_) rfl (by kernel_rfl) (by kernel_rfl) (by kernel_rfl) (fun _ _ _ h => h) (Or.inl ⟨by kernel_rfl, ?_⟩) hHeld ?_
         rotate_left
         · intro w1 hSw; (try dsimp only at hSw); go_simp <;> with_reducible rfl
         try simp only [Act.put, KA, KB, KC]
         refine KD (i := 9) (oi := ⟨some 28, _, _, _, _, _⟩) (v := ?_) rfl (by kernel_rfl) (by kernel_rfl) (by kernel_rfl) (fun _ _ _ h => h) (Or.inl ⟨by kernel_rfl, ?_⟩) hHeld ?_
         rotate_left
         · intro w1 hSw; (try dsimp only at hSw); go_simp <;> with_reducible rfl
         try simp only [Act.put, KA, KB, KC]
         refine KD (i := 10) (oi := ⟨some 29, _, _, _, _, _⟩) (v := ?_) rfl (by kernel_rfl) (by kernel_rfl) (by kernel_rfl) (fun _ _ _ h => h) (Or.inl ⟨by kernel_rfl, ?_⟩) hHeld ?_
         rotate_left
         · intro w1 hSw; (try dsimp only at hSw); go_simp <;> with_reducible rfl
         try simp only [Act.put, KA, KB, KC]
         refine KG (rs := [3]) (by kernel_rfl) (by simp) ?_
         refine KE rfl (fun K hK => ?_) KF
         go_simp
         go_at_call 141
         refine (checkIndex_any _ _ _).mono ?_
         rintro e w1 ⟨rfl, rfl⟩
         try go_simp
         refine hK.out _ _ ?_ (fun hHeld => ?_)
         · exact hHeld
         clear hK K
         try simp only [Act.put, KA, KB, KC]
         refine KG (rs := [6]) (by kernel_rfl) (by simp) ?_
         refine KE rfl (fun K hK => ?_) KF
         go_simp
         go_at_call 62
         refine (isName_any _ _).mono ?_
         rintro e w1 ⟨rfl, rfl⟩
         try go_simp
         refine hK.out _ _ ?_ (fun hHeld => ?_)
         · exact hHeld
         clear hK K
         try simp only [Act.put, KA, KB, KC]
         refine KD (i := 7) (oi := ⟨some 26, _, _, _, _, _⟩) (v := ?_) rfl (by kernel_rfl) (by kernel_rfl) (by kernel_rfl) (fun _ _ _ h => h) (Or.inl ⟨by kernel_rfl, ?_⟩) hHeld ?_
         rotate_left
         · intro w1 hSw; (try dsimp only at hSw); go_simp <;> with_reducible rfl
         try simp only [Act.put, KA, KB, KC]
         refine KG (rs := [8]) (by kernel_rfl) (by simp) ?_
         refine KE rfl (fun K hK => ?_) KF
         go_simp
         go_at_call 81
         refine (failed_any _ _ _).mono ?_
         rintro e w1 ⟨rfl, rfl⟩
         try go_simp
         refine hK.out _ _ ?_ (fun hHeld => ?_)
         · exact hHeld
         clear hK K
         try simp only [Act.put, KA, KB, KC]
         refine KD (i := 11) (oi := ⟨some 30, _, _, _, _, _⟩) (v := ?_) rfl (by kernel_rfl) (by kernel_rfl) (by kernel_rfl) (fun _ _ _ h => h) (Or.inl ⟨by kernel_rfl, ?_⟩) hHeld ?_
         rotate_left
         · intro w1 hSw; (try dsimp only at hSw); go_simp <;> with_reducible rfl
         try simp only [Act.put, KA, KB, KC]
         refine KD (i := 12) (v := undef) rfl (by kernel_rfl) (by kernel_rfl) (by kernel_rfl) (fun _ _ _ h => h) (Or.inr ⟨by kernel_rfl, rfl⟩) hHeld ?_
         try simp only [Act.put, KA, KB, KC]
         refine KD (i := 13) (v := undef) rfl (by kernel_rfl) (by kernel_rfl) (by kernel_rfl) (fun _ _ _ h => h) (Or.inr ⟨by kernel_rfl, rfl⟩) hHeld ?_
         try simp only [Act.put, KA, KB, KC]
         refine KD (i := 14) (v := undef) rfl (by kernel_rfl) (by kernel_rfl) (by kernel_rfl) (fun _ _ _ h => h) (Or.inr ⟨by kernel_rfl, rfl⟩) hHeld ?_
         try simp only [Act.put, KA, KB, KC]
         refine KD (i := 15) (v := undef) rfl (by kernel_rfl) (by kernel_rfl) (by kernel_rfl) (fun _ _ _ h => h) (Or.inr ⟨by kernel_rfl, rfl⟩) hHeld ?_
         try simp only [Act.put, KA, KB, KC]
         refine KD (i := 16) (v := undef) rfl (by kernel_rfl) (by kernel_rfl) (by kernel_rfl) (fun _ _ _ h => h) (Or.inr ⟨by kernel_rfl, rfl⟩) hHeld ?_
         try simp only [Act.put, KA, KB, KC]
         refine KD (i := 17) (v := undef) rfl (by kernel_rfl) (by kernel_rfl) (by kernel_rfl) (fun _ _ _ h => h) (Or.inr ⟨by kernel_rfl, rfl⟩) hHeld ?_
         try simp only [Act.put, KA, KB, KC]
         refine KD (i := 18) (v := undef) rfl (by kernel_rfl) (by kernel_rfl) (by kernel_rfl) (fun _ _ _ h => h) (Or.inr ⟨by kernel_rfl, rfl⟩) hHeld ?_
         try simp only [Act.put, KA, KB, KC]
         refine KD (i := 19) (v := undef) rfl (by kernel_rfl) (by kernel_rfl) (by kernel_rfl) (fun _ _ _ h => h) (Or.inr ⟨by kernel_rfl, rfl⟩) hHeld ?_
         try simp only [Act.put, KA, KB, KC]
         refine KD (i := 20) (v := undef) rfl (by kernel_rfl) (by kernel_rfl) (by kernel_rfl) (fun _ _ _ h => h) (Or.inr ⟨by kernel_rfl, rfl⟩) hHeld ?_
         try simp only [Act.put, KA, KB, KC]
         refine KD (i := 21) (oi := ⟨some 40, _, _, _, _, _⟩) (v := ?_) rfl (by kernel_rfl) (by kernel_rfl) (by kernel_rfl) (fun _ _ _ h => h) (Or.inl ⟨by kernel_rfl, ?_⟩) hHeld ?_
         rotate_left
         · intro w1 hSw; (try dsimp only at hSw); go_simp <;> with_reducible rfl
         try simp only [Act.put, KA, KB, KC]
         refine KG (rs := [22]) (by kernel_rfl) (by simp) ?_
         refine KE rfl (fun K hK => ?_) KF
         go_simp
         go_at_call 81
         refine (failed_any _ _ _).mono ?_
         rintro e w1 ⟨rfl, rfl⟩
         try go_simp
         refine hK.out _ _ ?_ (fun hHeld => ?_)
         · exact hHeld
         clear hK K
         try simp only [Act.put, KA, KB, KC]
         refine KG (rs := [23]) (by kernel_rfl) (by simp) ?_
         refine KE rfl (fun K hK => ?_) KF
         go_simp
         refine hK.out _ _ ?_ (fun hHeld => ?_)
         · exact ⟨keepC hHeld.1 ((Below.refl _ _).alloc (Nat.le_refl _) _), keepC hHeld.2.1 ((Below.refl _ _).alloc (Nat.le_refl _) _), hHeld.2.2.trans ((((Below.refl _ _).alloc (Nat.le_refl _) _)).mono hHeld.2.2.size)⟩
         clear hK K
         try simp only [Act.put, KA, KB, KC]
         refine KG (rs := [24]) (by kernel_rfl) (by simp) ?_
         refine KE rfl (fun K hK => ?_) KF
         go_simp
         go_at_call 57
         refine (firstV_any _ _ _ [whenI (decide (ix < 0) || decide (n ≤ ix)) 10, whenI (!nameL nm.data.toList) 8, whenI false 11] _ ?_ rfl (by simp)).mono ?_
         · exact Rd.new _ _ _ _ (by simp)
         rintro e w1 ⟨rfl, rfl⟩
         try go_simp
         refine hK.out _ _ ?_ (fun hHeld => ?_)
         · exact hHeld
         clear hK K
         try simp only [Act.put, KA, KB, KC]
         refine KD (i := 25) (oi := ⟨some 8, _, _, _, _, _⟩) (v := ?_) rfl (by kernel_rfl) (by kernel_rfl) (by kernel_rfl) (fun _ _ _ h => h) (Or.inl ⟨by kernel_rfl, ?_⟩) hHeld ?_
         rotate_left
         · intro w1 hSw; (try dsimp only at hSw); go_simp <;> with_reducible rfl
         try simp only [Act.put, KA, KB, KC]
         refine wpAnyH_done (by kernel_rfl) ?_ _
         go_wp2_with fail
         go_meet
         exact ⟨by rw [he.out], hHeld.2.2⟩
       · obtain ⟨j, rfl⟩ : ∃ j, k = j + 1 := ⟨k - 1, by omega⟩
         obtain ⟨b2, off2, hAb2, hp1, hp2⟩ := Rd.mark (HA.out.below HB.out) (show j < ms.length by omega)
         cases hAb2
         obtain ⟨ip, hip⟩ : ∃ ip, ip = ms[j].1 := ⟨_, rfl⟩
         obtain ⟨np, hnp⟩ : ∃ np, np = ms[j].2 := ⟨_, rfl⟩
         have hgj : ms.getD j (0, ByteArray.empty) = (ip, np) := by rw [hip, hnp, List.getD_eq_getElem?_getD, List.getElem?_eq_getElem (by omega)]; rfl
         have Hgj := Lib.hid hgj
         rw [← hip] at hp1; rw [← hnp] at hp2
         clear hip hnp hgj
         have hwj : IntKind.i64.wrap (j : Int) = (j : Int) := IntWalk.i64_in _ (by omega)
         have hj1 : (j : Int) < (ms.length : Int) := by omega
         have hj0 : (0 : Int) ≤ (j : Int) := by omega
         have he : Hid (er = firstI [whenI (decide (ix < 0) || decide (n ≤ ix)) 10, whenI (!nameL nm.data.toList) 8, whenI (!decide (ip < ix)) 11]) := by
          unfold Hid; rw [Her.out, errAt, Nat.add_sub_cancel, Hgk.out, Hgj.out]; simp
         refine wp_region_held_drew (S := fun w' => w'.cell? ⟨wr.heap.size, 0, none⟩ = some (.int .i64 ix) ∧ w'.cell? ⟨wr.heap.size, 1, none⟩ = some (.string nm) ∧ w'.cell? ⟨b, off + j * 2, none⟩ = some (.int .i64 ip) ∧ w'.cell? ⟨b, off + j * 2 + 1, none⟩ = some (.string np) ∧ Below wr.heap.size wr w') (by kernel_rfl) ?_ (fun hHeld => ?_)
         · exact ⟨by simp, by simp, keepC hp1 (((Below.refl _ _).alloc (Nat.le_refl _) _).drew), keepC hp2 (((Below.refl _ _).alloc (Nat.le_refl _) _).drew), ((Below.refl _ _).alloc (Nat.le_refl _) _).drew⟩
         refine KD (i := 0) (oi := ⟨some 19, _, _, _, _, _⟩) (v := ?_) rfl (by kernel_rfl) (by kernel_rfl) (by kernel_rfl) (fun _ _ _ h => h) (Or.inl ⟨by kernel_rfl, ?_⟩) hHeld ?_
         rotate_left
         · intro w1 hSw; (try dsimp only at hSw); go_simp <;> with_reducible rfl
         try simp only [Act.put, KA, KB, KC]
         refine KD (i := 1) (oi := ⟨some 20, _, _, _, _, _⟩) (v := ?_) rfl (by kernel_rfl) (by kernel_rfl) (by kernel_rfl) (fun _ _ _ h => h) (Or.inl ⟨by kernel_rfl, ?_⟩) hHeld ?_
         rotate_left
         · intro w1 hSw; (try dsimp only at hSw); go_simp <;> with_reducible rfl
         try simp only [Act.put, KA, KB, KC]
         refine KD (i := 2) (oi := ⟨some 21, _, _, _, _, _⟩) (v := ?_) rfl (by kernel_rfl) (by kernel_rfl) (by kernel_rfl) (fun _ _ _ h => h) (Or.inl ⟨by kernel_rfl, ?_⟩) hHeld ?_
         rotate_left
         · intro w1 hSw; (try dsimp only at hSw); go_simp <;> with_reducible rfl
         try simp only [Act.put, KA, KB, KC]
         refine KD (i := 4) (oi := ⟨some 23, _, _, _, _, _⟩) (v := ?_) rfl (by kernel_rfl) (by kernel_rfl) (by kernel_rfl) (fun _ _ _ h => h) (Or.inl ⟨by kernel_rfl, ?_⟩) hHeld ?_
         rotate_left
         · intro w1 hSw; (try dsimp only at hSw); go_simp <;> with_reducible rfl
         try simp only [Act.put, KA, KB, KC]
         refine KD (i := 5) (oi := ⟨some 24, _, _, _, _, _⟩) (v := ?_) rfl (by kernel_rfl) (by kernel_rfl) (by kernel_rfl) (fun _ _ _ h => h) (Or.inl ⟨by kernel_rfl, ?_⟩) hHeld ?_
         rotate_left
         · intro w1 hSw; (try dsimp only at hSw); go_simp <;> with_reducible rfl
         try simp only [Act.put, KA, KB, KC]
         refine KD (i := 9) (oi := ⟨some 28, _, _, _, _, _⟩) (v := ?_) rfl (by kernel_rfl) (by kernel_rfl) (by kernel_rfl) (fun _ _ _ h => h) (Or.inl ⟨by kernel_rfl, ?_⟩) hHeld ?_
         rotate_left
         · intro w1 hSw; (try dsimp only at hSw); go_simp <;> with_reducible rfl
         try simp only [Act.put, KA, KB, KC]
         refine KD (i := 10) (oi := ⟨some 29, _, _, _, _, _⟩) (v := ?_) rfl (by kernel_rfl) (by kernel_rfl) (by kernel_rfl) (fun _ _ _ h => h) (Or.inl ⟨by kernel_rfl, ?_⟩) hHeld ?_
         rotate_left
         · intro w1 hSw; (try dsimp only at hSw); go_simp <;> with_reducible rfl
         try simp only [Act.put, KA, KB, KC]
         refine KG (rs := [3]) (by kernel_rfl) (by simp) ?_
         refine KE rfl (fun K hK => ?_) KF
         go_simp
         go_at_call 141
         refine (checkIndex_any _ _ _).mono ?_
         rintro e w1 ⟨rfl, rfl⟩
         try go_simp
         refine hK.out _ _ ?_ (fun hHeld => ?_)
         · exact hHeld
         clear hK K
         try simp only [Act.put, KA, KB, KC]
         refine KG (rs := [6]) (by kernel_rfl) (by simp) ?_
         refine KE rfl (fun K hK => ?_) KF
         go_simp
         go_at_call 62
         refine (isName_any _ _).mono ?_
         rintro e w1 ⟨rfl, rfl⟩
         try go_simp
         refine hK.out _ _ ?_ (fun hHeld => ?_)
         · exact hHeld
         clear hK K
         try simp only [Act.put, KA, KB, KC]
         refine KD (i := 7) (oi := ⟨some 26, _, _, _, _, _⟩) (v := ?_) rfl (by kernel_rfl) (by kernel_rfl) (by kernel_rfl) (fun _ _ _ h => h) (Or.inl ⟨by kernel_rfl, ?_⟩) hHeld ?_
         rotate_left
         · intro w1 hSw; (try dsimp only at hSw); go_simp <;> with_reducible rfl
         try simp only [Act.put, KA, KB, KC]
         refine KG (rs := [8]) (by kernel_rfl) (by simp) ?_
         refine KE rfl (fun K hK => ?_) KF
         go_simp
         go_at_call 81
         refine (failed_any _ _ _).mono ?_
         rintro e w1 ⟨rfl, rfl⟩
         try go_simp
         refine hK.out _ _ ?_ (fun hHeld => ?_)
         · exact hHeld
         clear hK K
         try simp only [Act.put, KA, KB, KC]
         refine KD (i := 11) (oi := ⟨some 30, _, _, _, _, _⟩) (v := ?_) rfl (by kernel_rfl) (by kernel_rfl) (by kernel_rfl) (fun _ _ _ h => h) (Or.inl ⟨by kernel_rfl, ?_⟩) hHeld ?_
         rotate_left
         · intro w1 hSw; (try dsimp only at hSw); go_simp <;> with_reducible rfl
         try simp only [Act.put, KA, KB, KC]
         refine KD (i := 12) (oi := ⟨some 31, _, _, _, _, _⟩) (v := ?_) rfl (by kernel_rfl) (by kernel_rfl) (by kernel_rfl) (fun _ _ _ h => h) (Or.inl ⟨by kernel_rfl, ?_⟩) hHeld ?_
         rotate_left
         · intro w1 hSw; (try dsimp only at hSw); go_simp <;> with_reducible rfl
         try simp only [Act.put, KA, KB, KC]
         refine KD (i := 13) (oi := ⟨some 32, _, _, _, _, _⟩) (v := ?_) rfl (by kernel_rfl) (by kernel_rfl) (by kernel_rfl) (fun _ _ _ h => h) (Or.inl ⟨by kernel_rfl, ?_⟩) hHeld ?_
         rotate_left
         · intro w1 hSw; (try dsimp only at hSw); go_simp <;> with_reducible rfl
         try simp only [Act.put, KA, KB, KC]
         refine KD (i := 14) (oi := ⟨some 33, _, _, _, _, _⟩) (v := ?_) rfl (by kernel_rfl) (by kernel_rfl) (by kernel_rfl) (fun _ _ _ h => h) (Or.inl ⟨by kernel_rfl, ?_⟩) hHeld ?_
         rotate_left
         · intro w1 hSw; (try dsimp only at hSw); go_simp <;> with_reducible rfl
         try simp only [Act.put, KA, KB, KC]
         refine KD (i := 15) (oi := ⟨some 34, _, _, _, _, _⟩) (v := ?_) rfl (by kernel_rfl) (by kernel_rfl) (by kernel_rfl) (fun _ _ _ h => h) (Or.inl ⟨by kernel_rfl, ?_⟩) hHeld ?_
         rotate_left
         · intro w1 hSw; (try dsimp only at hSw); go_simp <;> with_reducible rfl
         try simp only [Act.put, KA, KB, KC]
         refine KD (i := 16) (oi := ⟨some 35, _, _, _, _, _⟩) (v := ?_) rfl (by kernel_rfl) (by kernel_rfl) (by kernel_rfl) (fun _ _ _ h => h) (Or.inl ⟨by kernel_rfl, ?_⟩) hHeld ?_
         rotate_left
         · intro w1 hSw; (try dsimp only at hSw); go_simp <;> with_reducible rfl
         try simp only [Act.put, KA, KB, KC]
         refine KD (i := 17) (oi := ⟨some 36, _, _, _, _, _⟩) (v := ?_) rfl (by kernel_rfl) (by kernel_rfl) (by kernel_rfl) (fun _ _ _ h => h) (Or.inl ⟨by kernel_rfl, ?_⟩) hHeld ?_
         rotate_left
         · intro w1 hSw; (try dsimp only at hSw); go_simp <;> with_reducible rfl
         try simp only [Act.put, KA, KB, KC]
         refine KD (i := 18) (oi := ⟨some 37, _, _, _, _, _⟩) (v := ?_) rfl (by kernel_rfl) (by kernel_rfl) (by kernel_rfl) (fun _ _ _ h => h) (Or.inl ⟨by kernel_rfl, ?_⟩) hHeld ?_
         rotate_left
         · intro w1 hSw; (try dsimp only at hSw); go_simp <;> with_reducible rfl
         try simp only [Act.put, KA, KB, KC]
         refine KG (rs := [19]) (by kernel_rfl) (by simp) ?_
         refine KE rfl (fun K hK => ?_) KF
         go_simp
         go_at_call 140
         refine (after_any _ _ _ _ _).mono ?_
         rintro e w1 ⟨rfl, hb1⟩
         try go_simp
         refine hK.out _ _ ?_ (fun hHeld => ?_)
         · exact ⟨keepC hHeld.1 hb1, keepC hHeld.2.1 hb1, keepC hHeld.2.2.1 hb1, keepC hHeld.2.2.2.1 hb1, hHeld.2.2.2.2.trans ((hb1).mono hHeld.2.2.2.2.size)⟩
         clear hK K
         try simp only [Act.put, KA, KB, KC]
         refine KD (i := 20) (oi := ⟨some 39, _, _, _, _, _⟩) (v := ?_) rfl (by kernel_rfl) (by kernel_rfl) (by kernel_rfl) (fun _ _ _ h => h) (Or.inl ⟨by kernel_rfl, ?_⟩) hHeld ?_
         rotate_left
         · intro w1 hSw; (try dsimp only at hSw); go_simp <;> with_reducible rfl
         try simp only [Act.put, KA, KB, KC]
         refine KD (i := 21) (oi := ⟨some 40, _, _, _, _, _⟩) (v := ?_) rfl (by kernel_rfl) (by kernel_rfl) (by kernel_rfl) (fun _ _ _ h => h) (Or.inl ⟨by kernel_rfl, ?_⟩) hHeld ?_
         rotate_left
         · intro w1 hSw; (try dsimp only at hSw); go_simp <;> with_reducible rfl
         try simp only [Act.put, KA, KB, KC]
         refine KG (rs := [22]) (by kernel_rfl) (by simp) ?_
         refine KE rfl (fun K hK => ?_) KF
         go_simp
         go_at_call 81
         refine (failed_any _ _ _).mono ?_
         rintro e w1 ⟨rfl, rfl⟩
         try go_simp
         refine hK.out _ _ ?_ (fun hHeld => ?_)
         · exact hHeld
         clear hK K
         try simp only [Act.put, KA, KB, KC]
         refine KG (rs := [23]) (by kernel_rfl) (by simp) ?_
         refine KE rfl (fun K hK => ?_) KF
         go_simp
         refine hK.out _ _ ?_ (fun hHeld => ?_)
         · exact ⟨keepC hHeld.1 ((Below.refl _ _).alloc (Nat.le_refl _) _), keepC hHeld.2.1 ((Below.refl _ _).alloc (Nat.le_refl _) _), keepC hHeld.2.2.1 ((Below.refl _ _).alloc (Nat.le_refl _) _), keepC hHeld.2.2.2.1 ((Below.refl _ _).alloc (Nat.le_refl _) _), hHeld.2.2.2.2.trans ((((Below.refl _ _).alloc (Nat.le_refl _) _)).mono hHeld.2.2.2.2.size)⟩
         clear hK K
         try simp only [Act.put, KA, KB, KC]
         refine KG (rs := [24]) (by kernel_rfl) (by simp) ?_
         refine KE rfl (fun K hK => ?_) KF
         go_simp
         go_at_call 57
         refine (firstV_any _ _ _ [whenI (decide (ix < 0) || decide (n ≤ ix)) 10, whenI (!nameL nm.data.toList) 8, whenI (!decide (ip < ix)) 11] _ ?_ rfl (by simp)).mono ?_
         · exact Rd.new _ _ _ _ (by simp)
         rintro e w1 ⟨rfl, rfl⟩
         try go_simp
         refine hK.out _ _ ?_ (fun hHeld => ?_)
         · exact hHeld
         clear hK K
         try simp only [Act.put, KA, KB, KC]
         refine KD (i := 25) (oi := ⟨some 8, _, _, _, _, _⟩) (v := ?_) rfl (by kernel_rfl) (by kernel_rfl) (by kernel_rfl) (fun _ _ _ h => h) (Or.inl ⟨by kernel_rfl, ?_⟩) hHeld ?_
         rotate_left
         · intro w1 hSw; (try dsimp only at hSw); go_simp <;> with_reducible rfl
         try simp only [Act.put, KA, KB, KC]
         refine wpAnyH_done (by kernel_rfl) ?_ _
         go_wp2_with fail
         go_meet
         exact ⟨by rw [he.out], hHeld.2.2.2.2⟩
      case rest =>
       obtain ⟨rfl, hbw⟩ := hcut
       have HBw := Lib.hid (HB.out.trans (hbw.mono HB.out.size))
       clear hbw
       by_cases hz : er = 0
       · subst hz
         go_wp2
         go_roundg (ms.length - (k + 1))
         case measure => omega
         case rel => exact ⟨k + 1, by omega, by go_num, rfl, by show _ = _; rw [← H.out, Hd.out, if_pos Her.out.symm], HBw.out⟩
       · have hz' : (er != 0) = true := by simpa using hz
         have Hz := Lib.hid hz; clear hz
         go_wp2
         go_ret
         exact ⟨ret_int (by rw [← H.out, Hd.out, if_neg (by rw [← Her.out]; exact Hz.out), ← Her.out]), HBw.out⟩
    · obtain rfl : k = ms.length := by omega
      go_wp2
      go_ret
      exact ⟨ret_int (by rw [← H.out, List.drop_of_length_le (by rw [errL_length]; omega)]; rfl), HB.out⟩
def RA := @List.setIfInBounds_toArray
def RD := @wpAnyH_take
def RE := @AllReadyH.cons
def RF := @AllReadyH.nil
def RG := @wpAnyH_ready
def RB := @List.set_cons_zero
def RC := @List.set_cons_succ
def recI (st sp : Int) (xs : List Nat) (ms : List (Int × ByteArray)) : Int :=
 firstI [whenI (rangeB st 0 100000000) 3, whenI (rangeB sp 1 1000) 3, sampsI xs, whenI (decide (0 < xs.length) && decide (100000000 < tickI st sp ((xs.length : Int) - 1))) 4, marksI xs.length ms]
set_option maxRecDepth 100000 in
set_option maxHeartbeats 4000000 in
theorem checkRecording_any (st sp : Int) (A B : Option Addr) (n c m d : Nat) (xs : List Nat) (ms : List (Int × ByteArray)) (w : World) (hA : Rd w A (flts xs)) (hB : Rd w B (markC ms)) (hn : n = xs.length) (hm : m = ms.length) (hx : xs.length ≤ 1000000000) :
 Calls Tryz.prog 80 #[.agg #[.int .i64 st, .int .i64 sp, .slice A n c, .slice B m d]] w fun e w' => e = .returned (.int .i64 (recI st sp xs ms)) ∧ Below w.heap.size w w' := by
 subst hn; subst hm
 have HA : Hid (∀ W, Below w.heap.size w W → Rd W A (flts xs)) := fun W h => hA.below h
 have HB : Hid (∀ W, Below w.heap.size w W → Rd W B (markC ms)) := fun W h => hB.below h
 clear hA hB
 by_cases h0 : xs.length = 0
 · have hg : decide (0 < xs.length) = false := decide_eq_false (by omega)
   have HR : Hid (recI st sp xs ms = firstI [whenI (rangeB st 0 100000000) 3, whenI (rangeB sp 1 1000) 3, sampsI xs, whenI false 4, marksI xs.length ms]) := by
    unfold Hid recI; rw [hg]; rfl
   clear h0
   go_enter Tryz.func80, Tryz.ntmps80
   go_wp2
   refine wp_region_held_drew (S := fun w' => w'.cell? ⟨w.heap.size, 0, none⟩ = some (.int .i64 st) ∧ w'.cell? ⟨w.heap.size, 1, none⟩ = some (.int .i64 sp) ∧ w'.cell? ⟨w.heap.size, 2, none⟩ = some (.slice A xs.length c) ∧ w'.cell? ⟨w.heap.size, 3, none⟩ = some (.slice B ms.length d) ∧ Below w.heap.size w w') (by kernel_rfl) ?_ (fun hHeld => ?_)
   · exact ⟨by simp, by simp, by simp, by simp, ((Below.refl _ _).alloc (Nat.le_refl _) _).drew⟩
   refine RD (i := 0) (v := ?_) rfl (by kernel_rfl) (by kernel_rfl) (by kernel_rfl) (fun _ _ _ h => h) (Or.inl ⟨by kernel_rfl, ?_⟩) hHeld ?_
   rotate_left
   · intro w1 hSw; (try dsimp only at hSw); go_simp <;> with_reducible rfl
   try simp only [Act.put, RA, RB, RC]
   refine RD (i := 1) (v := ?_) rfl (by kernel_rfl) (by kernel_rfl) (by kernel_rfl) (fun _ _ _ h => h) (Or.inl ⟨by kernel_rfl, ?_⟩) hHeld ?_
   rotate_left
   · intro w1 hSw; (try dsimp only at hSw); go_simp <;> with_reducible rfl
   try simp only [Act.put, RA, RB, RC]
   refine RD (i := 3) (v := ?_) rfl (by kernel_rfl) (by kernel_rfl) (by kernel_rfl) (fun _ _ _ h => h) (Or.inl ⟨by kernel_rfl, ?_⟩) hHeld ?_
   rotate_left
   · intro w1 hSw; (try dsimp only at hSw); go_simp <;> with_reducible rfl
   try simp only [Act.put, RA, RB, RC]
   refine RD (i := 4) (v := ?_) rfl (by kernel_rfl) (by kernel_rfl) (by kernel_rfl) (fun _ _ _ h => h) (Or.inl ⟨by kernel_rfl, ?_⟩) hHeld ?_
   rotate_left
   · intro w1 hSw; (try dsimp only at hSw); go_simp <;> with_reducible rfl
   try simp only [Act.put, RA, RB, RC]
   refine RD (i := 6) (v := ?_) rfl (by kernel_rfl) (by kernel_rfl) (by kernel_rfl) (fun _ _ _ h => h) (Or.inl ⟨by kernel_rfl, ?_⟩) hHeld ?_
   rotate_left
   · intro w1 hSw; (try dsimp only at hSw); go_simp <;> with_reducible rfl
   try simp only [Act.put, RA, RB, RC]
   refine RD (i := 7) (v := ?_) rfl (by kernel_rfl) (by kernel_rfl) (by kernel_rfl) (fun _ _ _ h => h) (Or.inl ⟨by kernel_rfl, ?_⟩) hHeld ?_
   rotate_left
   · intro w1 hSw; (try dsimp only at hSw); go_simp <;> with_reducible rfl
   try simp only [Act.put, RA, RB, RC]
   refine RD (i := 9) (v := ?_) rfl (by kernel_rfl) (by kernel_rfl) (by kernel_rfl) (fun _ _ _ h => h) (Or.inl ⟨by kernel_rfl, ?_⟩) hHeld ?_
   rotate_left
   · intro w1 hSw; (try dsimp only at hSw); go_simp <;> with_reducible rfl
   try simp only [Act.put, RA, RB, RC]
   refine RD (i := 10) (v := ?_) rfl (by kernel_rfl) (by kernel_rfl) (by kernel_rfl) (fun _ _ _ h => h) (Or.inl ⟨by kernel_rfl, ?_⟩) hHeld ?_
   rotate_left
   · intro w1 hSw; (try dsimp only at hSw); go_simp <;> with_reducible rfl
   try simp only [Act.put, RA, RB, RC]
   refine RD (i := 19) (v := ?_) rfl (by kernel_rfl) (by kernel_rfl) (by kernel_rfl) (fun _ _ _ h => h) (Or.inl ⟨by kernel_rfl, ?_⟩) hHeld ?_
   rotate_left
   · intro w1 hSw; (try dsimp only at hSw); go_simp <;> with_reducible rfl
   try simp only [Act.put, RA, RB, RC]
   refine RD (i := 20) (v := ?_) rfl (by kernel_rfl) (by kernel_rfl) (by kernel_rfl) (fun _ _ _ h => h) (Or.inl ⟨by kernel_rfl, ?_⟩) hHeld ?_
   rotate_left
   · intro w1 hSw; (try dsimp only at hSw); go_simp <;> with_reducible rfl
   try simp only [Act.put, RA, RB, RC]
   refine RD (i := 21) (v := ?_) rfl (by kernel_rfl) (by kernel_rfl) (by kernel_rfl) (fun _ _ _ h => h) (Or.inl ⟨by kernel_rfl, ?_⟩) hHeld ?_
   rotate_left
   · intro w1 hSw; (try dsimp only at hSw); go_simp <;> with_reducible rfl
   try simp only [Act.put, RA, RB, RC]
   refine RG (rs := [2]) (by kernel_rfl) (by simp) ?_
   refine RE rfl (fun K hK => ?_) RF
   go_simp
   go_at_call 58
   refine (between_any _ _ _ _).mono ?_
   rintro e w1 ⟨rfl, rfl⟩
   try go_simp
   refine hK.out _ _ ?_ (fun hHeld => ?_)
   · exact hHeld
   clear hK K
   try simp only [Act.put, RA, RB, RC]
   refine RG (rs := [5]) (by kernel_rfl) (by simp) ?_
   refine RE rfl (fun K hK => ?_) RF
   go_simp
   go_at_call 58
   refine (between_any _ _ _ _).mono ?_
   rintro e w1 ⟨rfl, rfl⟩
   try go_simp
   refine hK.out _ _ ?_ (fun hHeld => ?_)
   · exact hHeld
   clear hK K
   try simp only [Act.put, RA, RB, RC]
   refine RG (rs := [8]) (by kernel_rfl) (by simp) ?_
   refine RE rfl (fun K hK => ?_) RF
   go_simp
   go_at_call 42
   refine (checkSamples_any _ _ _ xs _ (HA.out _ hHeld.2.2.2.2) rfl).mono ?_
   rintro e w1 ⟨rfl, hb1⟩
   try go_simp
   refine hK.out _ _ ?_ (fun hHeld => ?_)
   · exact ⟨keepC hHeld.1 hb1, keepC hHeld.2.1 hb1, keepC hHeld.2.2.1 hb1, keepC hHeld.2.2.2.1 hb1, hHeld.2.2.2.2.trans ((hb1).mono hHeld.2.2.2.2.size)⟩
   clear hK K
   try simp only [Act.put, RA, RB, RC]
   refine RD (i := 11) (v := ?_) rfl (by kernel_rfl) (by kernel_rfl) (by kernel_rfl) (fun _ _ _ h => h) (Or.inl ⟨by kernel_rfl, ?_⟩) hHeld ?_
   rotate_left
   · intro w1 hSw; (try dsimp only at hSw); go_simp <;> with_reducible rfl
   try simp only [Act.put, RA, RB, RC]
   refine RD (i := 12) (v := undef) rfl (by kernel_rfl) (by kernel_rfl) (by kernel_rfl) (fun _ _ _ h => h) (Or.inr ⟨by kernel_rfl, rfl⟩) hHeld ?_
   try simp only [Act.put, RA, RB, RC]
   refine RD (i := 13) (v := undef) rfl (by kernel_rfl) (by kernel_rfl) (by kernel_rfl) (fun _ _ _ h => h) (Or.inr ⟨by kernel_rfl, rfl⟩) hHeld ?_
   try simp only [Act.put, RA, RB, RC]
   refine RD (i := 14) (v := undef) rfl (by kernel_rfl) (by kernel_rfl) (by kernel_rfl) (fun _ _ _ h => h) (Or.inr ⟨by kernel_rfl, rfl⟩) hHeld ?_
   try simp only [Act.put, RA, RB, RC]
   refine RD (i := 15) (v := undef) rfl (by kernel_rfl) (by kernel_rfl) (by kernel_rfl) (fun _ _ _ h => h) (Or.inr ⟨by kernel_rfl, rfl⟩) hHeld ?_
   try simp only [Act.put, RA, RB, RC]
   refine RD (i := 16) (v := undef) rfl (by kernel_rfl) (by kernel_rfl) (by kernel_rfl) (fun _ _ _ h => h) (Or.inr ⟨by kernel_rfl, rfl⟩) hHeld ?_
   try simp only [Act.put, RA, RB, RC]
   refine RD (i := 17) (v := ?_) rfl (by kernel_rfl) (by kernel_rfl) (by kernel_rfl) (fun _ _ _ h => h) (Or.inl ⟨by kernel_rfl, ?_⟩) hHeld ?_
   rotate_left
   · intro w1 hSw; (try dsimp only at hSw); go_simp <;> with_reducible rfl
   try simp only [Act.put, RA, RB, RC]
   refine RG (rs := [18]) (by kernel_rfl) (by simp) ?_
   refine RE rfl (fun K hK => ?_) RF
   go_simp
   go_at_call 81
   refine (failed_any _ _ _).mono ?_
   rintro e w1 ⟨rfl, rfl⟩
   try go_simp
   refine hK.out _ _ ?_ (fun hHeld => ?_)
   · exact hHeld
   clear hK K
   try simp only [Act.put, RA, RB, RC]
   refine RG (rs := [22]) (by kernel_rfl) (by simp) ?_
   refine RE rfl (fun K hK => ?_) RF
   go_simp
   go_at_call 120
   refine (checkMarks_any _ _ _ _ ms _ (HB.out _ hHeld.2.2.2.2) rfl).mono ?_
   rintro e w1 ⟨rfl, hb1⟩
   try go_simp
   refine hK.out _ _ ?_ (fun hHeld => ?_)
   · exact ⟨keepC hHeld.1 hb1, keepC hHeld.2.1 hb1, keepC hHeld.2.2.1 hb1, keepC hHeld.2.2.2.1 hb1, hHeld.2.2.2.2.trans ((hb1).mono hHeld.2.2.2.2.size)⟩
   clear hK K
   try simp only [Act.put, RA, RB, RC]
   refine RG (rs := [23]) (by kernel_rfl) (by simp) ?_
   refine RE rfl (fun K hK => ?_) RF
   go_simp
   refine hK.out _ _ ?_ (fun hHeld => ?_)
   · exact ⟨keepC hHeld.1 ((Below.refl _ _).alloc (Nat.le_refl _) _), keepC hHeld.2.1 ((Below.refl _ _).alloc (Nat.le_refl _) _), keepC hHeld.2.2.1 ((Below.refl _ _).alloc (Nat.le_refl _) _), keepC hHeld.2.2.2.1 ((Below.refl _ _).alloc (Nat.le_refl _) _), hHeld.2.2.2.2.trans ((((Below.refl _ _).alloc (Nat.le_refl _) _)).mono hHeld.2.2.2.2.size)⟩
   clear hK K
   try simp only [Act.put, RA, RB, RC]
   refine RG (rs := [24]) (by kernel_rfl) (by simp) ?_
   refine RE rfl (fun K hK => ?_) RF
   go_simp
   go_at_call 57
   refine (firstV_any _ _ _ [whenI (rangeB st 0 100000000) 3, whenI (rangeB sp 1 1000) 3, sampsI xs, whenI false 4, marksI xs.length ms] _ ?_ rfl (by simp)).mono ?_
   · exact Rd.new _ _ _ _ (by simp)
   rintro e w1 ⟨rfl, rfl⟩
   try go_simp
   refine hK.out _ _ ?_ (fun hHeld => ?_)
   · exact hHeld
   clear hK K
   try simp only [Act.put, RA, RB, RC]
   refine RD (i := 25) (oi := { dst := some 2, op := Op.assign (Operand.tmp 31), type := 32, pos := _, after := #[{ on := 24, ground := Ground.data }, { on := 24, ground := Ground.chain }, { on := 0, ground := Ground.phase }, { on := 1, ground := Ground.phase }, { on := 2, ground := Ground.phase }, { on := 3, ground := Ground.phase }, { on := 4, ground := Ground.phase }, { on := 5, ground := Ground.phase }, { on := 6, ground := Ground.phase }, { on := 7, ground := Ground.phase }, { on := 8, ground := Ground.phase }, { on := 9, ground := Ground.phase }, { on := 10, ground := Ground.phase }, { on := 11, ground := Ground.phase }, { on := 12, ground := Ground.phase }, { on := 13, ground := Ground.phase }, { on := 14, ground := Ground.phase }, { on := 15, ground := Ground.phase }, { on := 16, ground := Ground.phase }, { on := 17, ground := Ground.phase }, { on := 18, ground := Ground.phase }, { on := 19, ground := Ground.phase }, { on := 20, ground := Ground.phase }, { on := 21, ground := Ground.phase }, { on := 22, ground := Ground.phase }, { on := 23, ground := Ground.phase }, { on := 24, ground := Ground.phase }], guard := none }) (v := ?_) rfl (by kernel_rfl) (by kernel_rfl) (by kernel_rfl) (fun _ _ _ h => h) (Or.inl ⟨by kernel_rfl, ?_⟩) hHeld ?_
   rotate_left
   · intro w1 hSw; (try dsimp only at hSw); go_simp <;> with_reducible rfl
   try simp only [Act.put, RA, RB, RC]
   refine wpAnyH_done (by kernel_rfl) ?_ _
   go_wp2
   go_ret
   exact ⟨ret_int HR.out.symm, hHeld.2.2.2.2⟩
 · have hg : decide (0 < xs.length) = true := decide_eq_true (by omega)
   have hsub : IntKind.i64.wrap ((xs.length : Int) - 1) = (xs.length : Int) - 1 := IntWalk.i64_in _ (by omega)
   have HR : Hid (recI st sp xs ms = firstI [whenI (rangeB st 0 100000000) 3, whenI (rangeB sp 1 1000) 3, sampsI xs, whenI (decide (100000000 < tickI st sp ((xs.length : Int) - 1))) 4, marksI xs.length ms]) := by
    unfold Hid recI; rw [hg]; rfl
   clear h0
   go_enter Tryz.func80, Tryz.ntmps80
   go_wp2
   refine wp_region_held_drew (S := fun w' => w'.cell? ⟨w.heap.size, 0, none⟩ = some (.int .i64 st) ∧ w'.cell? ⟨w.heap.size, 1, none⟩ = some (.int .i64 sp) ∧ w'.cell? ⟨w.heap.size, 2, none⟩ = some (.slice A xs.length c) ∧ w'.cell? ⟨w.heap.size, 3, none⟩ = some (.slice B ms.length d) ∧ Below w.heap.size w w') (by kernel_rfl) ?_ (fun hHeld => ?_)
   · exact ⟨by simp, by simp, by simp, by simp, ((Below.refl _ _).alloc (Nat.le_refl _) _).drew⟩
   refine RD (i := 0) (v := ?_) rfl (by kernel_rfl) (by kernel_rfl) (by kernel_rfl) (fun _ _ _ h => h) (Or.inl ⟨by kernel_rfl, ?_⟩) hHeld ?_
   rotate_left
   · intro w1 hSw; (try dsimp only at hSw); go_simp <;> with_reducible rfl
   try simp only [Act.put, RA, RB, RC]
   refine RD (i := 1) (v := ?_) rfl (by kernel_rfl) (by kernel_rfl) (by kernel_rfl) (fun _ _ _ h => h) (Or.inl ⟨by kernel_rfl, ?_⟩) hHeld ?_
   rotate_left
   · intro w1 hSw; (try dsimp only at hSw); go_simp <;> with_reducible rfl
   try simp only [Act.put, RA, RB, RC]
   refine RD (i := 3) (v := ?_) rfl (by kernel_rfl) (by kernel_rfl) (by kernel_rfl) (fun _ _ _ h => h) (Or.inl ⟨by kernel_rfl, ?_⟩) hHeld ?_
   rotate_left
   · intro w1 hSw; (try dsimp only at hSw); go_simp <;> with_reducible rfl
   try simp only [Act.put, RA, RB, RC]
   refine RD (i := 4) (v := ?_) rfl (by kernel_rfl) (by kernel_rfl) (by kernel_rfl) (fun _ _ _ h => h) (Or.inl ⟨by kernel_rfl, ?_⟩) hHeld ?_
   rotate_left
   · intro w1 hSw; (try dsimp only at hSw); go_simp <;> with_reducible rfl
   try simp only [Act.put, RA, RB, RC]
   refine RD (i := 6) (v := ?_) rfl (by kernel_rfl) (by kernel_rfl) (by kernel_rfl) (fun _ _ _ h => h) (Or.inl ⟨by kernel_rfl, ?_⟩) hHeld ?_
   rotate_left
   · intro w1 hSw; (try dsimp only at hSw); go_simp <;> with_reducible rfl
   try simp only [Act.put, RA, RB, RC]
   refine RD (i := 7) (v := ?_) rfl (by kernel_rfl) (by kernel_rfl) (by kernel_rfl) (fun _ _ _ h => h) (Or.inl ⟨by kernel_rfl, ?_⟩) hHeld ?_
   rotate_left
   · intro w1 hSw; (try dsimp only at hSw); go_simp <;> with_reducible rfl
   try simp only [Act.put, RA, RB, RC]
   refine RD (i := 9) (v := ?_) rfl (by kernel_rfl) (by kernel_rfl) (by kernel_rfl) (fun _ _ _ h => h) (Or.inl ⟨by kernel_rfl, ?_⟩) hHeld ?_
   rotate_left
   · intro w1 hSw; (try dsimp only at hSw); go_simp <;> with_reducible rfl
   try simp only [Act.put, RA, RB, RC]
   refine RD (i := 10) (v := ?_) rfl (by kernel_rfl) (by kernel_rfl) (by kernel_rfl) (fun _ _ _ h => h) (Or.inl ⟨by kernel_rfl, ?_⟩) hHeld ?_
   rotate_left
   · intro w1 hSw; (try dsimp only at hSw); go_simp <;> with_reducible rfl
   try simp only [Act.put, RA, RB, RC]
   refine RD (i := 19) (v := ?_) rfl (by kernel_rfl) (by kernel_rfl) (by kernel_rfl) (fun _ _ _ h => h) (Or.inl ⟨by kernel_rfl, ?_⟩) hHeld ?_
   rotate_left
   · intro w1 hSw; (try dsimp only at hSw); go_simp <;> with_reducible rfl
   try simp only [Act.put, RA, RB, RC]
   refine RD (i := 20) (v := ?_) rfl (by kernel_rfl) (by kernel_rfl) (by kernel_rfl) (fun _ _ _ h => h) (Or.inl ⟨by kernel_rfl, ?_⟩) hHeld ?_
   rotate_left
   · intro w1 hSw; (try dsimp only at hSw); go_simp <;> with_reducible rfl
   try simp only [Act.put, RA, RB, RC]
   refine RD (i := 21) (v := ?_) rfl (by kernel_rfl) (by kernel_rfl) (by kernel_rfl) (fun _ _ _ h => h) (Or.inl ⟨by kernel_rfl, ?_⟩) hHeld ?_
   rotate_left
   · intro w1 hSw; (try dsimp only at hSw); go_simp <;> with_reducible rfl
   try simp only [Act.put, RA, RB, RC]
   refine RG (rs := [2]) (by kernel_rfl) (by simp) ?_
   refine RE rfl (fun K hK => ?_) RF
   go_simp
   go_at_call 58
   refine (between_any _ _ _ _).mono ?_
   rintro e w1 ⟨rfl, rfl⟩
   try go_simp
   refine hK.out _ _ ?_ (fun hHeld => ?_)
   · exact hHeld
   clear hK K
   try simp only [Act.put, RA, RB, RC]
   refine RG (rs := [5]) (by kernel_rfl) (by simp) ?_
   refine RE rfl (fun K hK => ?_) RF
   go_simp
   go_at_call 58
   refine (between_any _ _ _ _).mono ?_
   rintro e w1 ⟨rfl, rfl⟩
   try go_simp
   refine hK.out _ _ ?_ (fun hHeld => ?_)
   · exact hHeld
   clear hK K
   try simp only [Act.put, RA, RB, RC]
   refine RG (rs := [8]) (by kernel_rfl) (by simp) ?_
   refine RE rfl (fun K hK => ?_) RF
   go_simp
   go_at_call 42
   refine (checkSamples_any _ _ _ xs _ (HA.out _ hHeld.2.2.2.2) rfl).mono ?_
   rintro e w1 ⟨rfl, hb1⟩
   try go_simp
   refine hK.out _ _ ?_ (fun hHeld => ?_)
   · exact ⟨keepC hHeld.1 hb1, keepC hHeld.2.1 hb1, keepC hHeld.2.2.1 hb1, keepC hHeld.2.2.2.1 hb1, hHeld.2.2.2.2.trans ((hb1).mono hHeld.2.2.2.2.size)⟩
   clear hK K
   try simp only [Act.put, RA, RB, RC]
   refine RD (i := 11) (v := ?_) rfl (by kernel_rfl) (by kernel_rfl) (by kernel_rfl) (fun _ _ _ h => h) (Or.inl ⟨by kernel_rfl, ?_⟩) hHeld ?_
   rotate_left
   · intro w1 hSw; (try dsimp only at hSw); go_simp <;> with_reducible rfl
   try simp only [Act.put, RA, RB, RC]
   refine RD (i := 12) (v := ?_) rfl (by kernel_rfl) (by kernel_rfl) (by kernel_rfl) (fun _ _ _ h => h) (Or.inl ⟨by kernel_rfl, ?_⟩) hHeld ?_
   rotate_left
   · intro w1 hSw; (try dsimp only at hSw); go_simp <;> with_reducible rfl
   try simp only [Act.put, RA, RB, RC]
   refine RD (i := 13) (v := ?_) rfl (by kernel_rfl) (by kernel_rfl) (by kernel_rfl) (fun _ _ _ h => h) (Or.inl ⟨by kernel_rfl, ?_⟩) hHeld ?_
   rotate_left
   · intro w1 hSw; (try dsimp only at hSw); go_simp <;> with_reducible rfl
   try simp only [Act.put, RA, RB, RC]
   refine RD (i := 14) (v := ?_) rfl (by kernel_rfl) (by kernel_rfl) (by kernel_rfl) (fun _ _ _ h => h) (Or.inl ⟨by kernel_rfl, ?_⟩) hHeld ?_
   rotate_left
   · intro w1 hSw; (try dsimp only at hSw); go_simp <;> with_reducible rfl
   try simp only [Act.put, RA, RB, RC]
   refine RG (rs := [15]) (by kernel_rfl) (by simp) ?_
   refine RE rfl (fun K hK => ?_) RF
   go_simp
   go_at_call 82
   refine (tick_any _ _ _ _ _ _ _ _ _ _).mono ?_
   rintro e w1 ⟨rfl, hb1⟩
   try go_simp
   refine hK.out _ _ ?_ (fun hHeld => ?_)
   · exact ⟨keepC hHeld.1 hb1, keepC hHeld.2.1 hb1, keepC hHeld.2.2.1 hb1, keepC hHeld.2.2.2.1 hb1, hHeld.2.2.2.2.trans ((hb1).mono hHeld.2.2.2.2.size)⟩
   clear hK K
   try simp only [Act.put, RA, RB, RC]
   refine RD (i := 16) (v := ?_) rfl (by kernel_rfl) (by kernel_rfl) (by kernel_rfl) (fun _ _ _ h => h) (Or.inl ⟨by kernel_rfl, ?_⟩) hHeld ?_
   rotate_left
   · intro w1 hSw; (try dsimp only at hSw); go_simp <;> with_reducible rfl
   try simp only [Act.put, RA, RB, RC]
   refine RD (i := 17) (v := ?_) rfl (by kernel_rfl) (by kernel_rfl) (by kernel_rfl) (fun _ _ _ h => h) (Or.inl ⟨by kernel_rfl, ?_⟩) hHeld ?_
   rotate_left
   · intro w1 hSw; (try dsimp only at hSw); go_simp <;> with_reducible rfl
   try simp only [Act.put, RA, RB, RC]
   refine RG (rs := [18]) (by kernel_rfl) (by simp) ?_
   refine RE rfl (fun K hK => ?_) RF
   go_simp
   go_at_call 81
   refine (failed_any _ _ _).mono ?_
   rintro e w1 ⟨rfl, rfl⟩
   try go_simp
   refine hK.out _ _ ?_ (fun hHeld => ?_)
   · exact hHeld
   clear hK K
   try simp only [Act.put, RA, RB, RC]
   refine RG (rs := [22]) (by kernel_rfl) (by simp) ?_
   refine RE rfl (fun K hK => ?_) RF
   go_simp
   go_at_call 120
   refine (checkMarks_any _ _ _ _ ms _ (HB.out _ hHeld.2.2.2.2) rfl).mono ?_
   rintro e w1 ⟨rfl, hb1⟩
   try go_simp
   refine hK.out _ _ ?_ (fun hHeld => ?_)
   · exact ⟨keepC hHeld.1 hb1, keepC hHeld.2.1 hb1, keepC hHeld.2.2.1 hb1, keepC hHeld.2.2.2.1 hb1, hHeld.2.2.2.2.trans ((hb1).mono hHeld.2.2.2.2.size)⟩
   clear hK K
   try simp only [Act.put, RA, RB, RC]
   refine RG (rs := [23]) (by kernel_rfl) (by simp) ?_
   refine RE rfl (fun K hK => ?_) RF
   go_simp
   refine hK.out _ _ ?_ (fun hHeld => ?_)
   · exact ⟨keepC hHeld.1 ((Below.refl _ _).alloc (Nat.le_refl _) _), keepC hHeld.2.1 ((Below.refl _ _).alloc (Nat.le_refl _) _), keepC hHeld.2.2.1 ((Below.refl _ _).alloc (Nat.le_refl _) _), keepC hHeld.2.2.2.1 ((Below.refl _ _).alloc (Nat.le_refl _) _), hHeld.2.2.2.2.trans ((((Below.refl _ _).alloc (Nat.le_refl _) _)).mono hHeld.2.2.2.2.size)⟩
   clear hK K
   try simp only [Act.put, RA, RB, RC]
   refine RG (rs := [24]) (by kernel_rfl) (by simp) ?_
   refine RE rfl (fun K hK => ?_) RF
   go_simp
   go_at_call 57
   refine (firstV_any _ _ _ [whenI (rangeB st 0 100000000) 3, whenI (rangeB sp 1 1000) 3, sampsI xs, whenI (decide (100000000 < tickI st sp ((xs.length : Int) - 1))) 4, marksI xs.length ms] _ ?_ rfl (by simp)).mono ?_
   · exact Rd.new _ _ _ _ (by simp)
   rintro e w1 ⟨rfl, rfl⟩
   try go_simp
   refine hK.out _ _ ?_ (fun hHeld => ?_)
   · exact hHeld
   clear hK K
   try simp only [Act.put, RA, RB, RC]
   refine RD (i := 25) (oi := { dst := some 2, op := Op.assign (Operand.tmp 31), type := 32, pos := _, after := #[{ on := 24, ground := Ground.data }, { on := 24, ground := Ground.chain }, { on := 0, ground := Ground.phase }, { on := 1, ground := Ground.phase }, { on := 2, ground := Ground.phase }, { on := 3, ground := Ground.phase }, { on := 4, ground := Ground.phase }, { on := 5, ground := Ground.phase }, { on := 6, ground := Ground.phase }, { on := 7, ground := Ground.phase }, { on := 8, ground := Ground.phase }, { on := 9, ground := Ground.phase }, { on := 10, ground := Ground.phase }, { on := 11, ground := Ground.phase }, { on := 12, ground := Ground.phase }, { on := 13, ground := Ground.phase }, { on := 14, ground := Ground.phase }, { on := 15, ground := Ground.phase }, { on := 16, ground := Ground.phase }, { on := 17, ground := Ground.phase }, { on := 18, ground := Ground.phase }, { on := 19, ground := Ground.phase }, { on := 20, ground := Ground.phase }, { on := 21, ground := Ground.phase }, { on := 22, ground := Ground.phase }, { on := 23, ground := Ground.phase }, { on := 24, ground := Ground.phase }], guard := none }) (v := ?_) rfl (by kernel_rfl) (by kernel_rfl) (by kernel_rfl) (fun _ _ _ h => h) (Or.inl ⟨by kernel_rfl, ?_⟩) hHeld ?_
   rotate_left
   · intro w1 hSw; (try dsimp only at hSw); go_simp <;> with_reducible rfl
   try simp only [Act.put, RA, RB, RC]
   refine wpAnyH_done (by kernel_rfl) ?_ _
   go_wp2
   go_ret
   exact ⟨ret_int HR.out.symm, hHeld.2.2.2.2⟩
def shiftM (by' : Int) (m : Int × ByteArray) : Int × ByteArray := (wrap64 (m.1 + by'), m.2)
set_option maxHeartbeats 400000 in
theorem moved1_any (a d : Int) (s : ByteArray) (g : Nat) (w : World) (hc : w.cell? ⟨g, 0, none⟩ = some (.int .i64 d)) : Calls Tryz.prog 122 #[.agg #[.int .i64 a, .string s], .pointer (some ⟨g, 0, none⟩)] w fun e w' => e = .returned (.agg #[.int .i64 (wrap64 (a + d)), .string s]) ∧ Below w.heap.size w w' := by
 have hlt := World.block_lt_of_cell? w _ hc
 have hlt2 : g < w.heap.size := hlt
 clear hlt
 go_enter Tryz.func122, Tryz.ntmps122
 go_wp2
 exact bodyPost_ret (v := .agg #[.int .i64 (wrap64 (a + d)), .string s]) (by simp [results, Tryz.results122, go_sem]) rfl ⟨rfl, ((Below.refl _ _).alloc (Nat.le_refl _) _).alloc (by simp) _⟩
theorem make2 {P : Program} (t e : TypeId) (z : Value) (z0 z1 : Value) (bytes : Nat) (ht : P.underlying t = some (.slice e)) (hinfo : (P.info? e).map (fun i => (i.zero, i.size, i.bytes)) = some (some z, 2, bytes)) (hz : z.cells = #[z0, z1])
 (n : Nat) (hn : bytes * n ≤ 281474976710656) (h63 : n ≤ 9223372036854775807) (w : World) :
 (Instr.makeSlice t (.int .i64 (n : Int)) (.int .i64 (n : Int))).run P w = .ok (.slice (some ⟨w.heap.size, 0, none⟩) n n) (w.alloc (.cells (madeCells #[z0, z1] (n * 2)) e)) := by
 obtain ⟨i, hi, h1, h2, h3⟩ := info_parts hinfo
 have hb : (i.bytes : Int) * (n : Int) ≤ 281474976710656 := by
  rw [h3]
  have h : ((bytes * n : Nat) : Int) ≤ 281474976710656 := by omega
  rwa [Int.natCast_mul] at h
 have h := run_make w t e i z ht hi h1 .i64 .i64 n n (by omega) (by omega) hb (by omega)
 rw [Int.toNat_natCast, h2, hz] at h
 exact h
theorem set2 (X M : List Value) (k : Nat) (a b : Value) (hX : X.length = k * 2) (hM : k * 2 + 2 ≤ M.length) :
 ((X ++ M.drop (k * 2)).set (k * 2) a).set (k * 2 + 1) b = X ++ [a, b] ++ M.drop ((k + 1) * 2) := by
 have e1 : M.drop (k * 2) = M[k * 2] :: M[k * 2 + 1] :: M.drop (k * 2 + 2) := by
  rw [List.drop_eq_getElem_cons (by omega), List.drop_eq_getElem_cons (by omega)]
 rw [e1, List.set_append_right _ _ (by omega), hX, Nat.sub_self, List.set_cons_zero, List.set_append_right _ _ (by omega), hX, Nat.add_sub_cancel_left, List.set_cons_succ, List.set_cons_zero, show (k + 1) * 2 = k * 2 + 2 by omega, List.append_assoc]
 rfl
theorem info158 : (Tryz.prog.info? 100).map (fun i => (i.zero, i.size, i.bytes)) = some (some (.agg #[.int .i64 0, .string ⟨#[]⟩]), 2, 24) := by kernel_rfl
set_option maxRecDepth 100000 in
set_option maxHeartbeats 1000000 in
theorem mappedMark_any (A : Option Addr) (n c : Nat) (ms : List (Int × ByteArray)) (d : Int) (gb : Nat) (w : World) (hA : Rd w A (markC ms)) (hn : n = ms.length) (hm : ms.length ≤ 1000000) (hd : w.cell? ⟨gb, 0, none⟩ = some (.int .i64 d)) :
 Calls Tryz.prog 121 #[.slice A n c, .func (.func 122) #[] #[.pointer (some ⟨gb, 0, none⟩)]] w fun e w' => ∃ g, e = .returned (.slice (some ⟨g, 0, none⟩) n n) ∧ Row w' g 100 (markC (ms.map (shiftM d))) ∧ w.heap.size ≤ g ∧ Below w.heap.size w w' := by
 subst hn
 have hmk := fun W : World => make2 (P := Tryz.prog) 89 100 (.agg #[.int .i64 0, .string ⟨#[]⟩]) (.int .i64 0) (.string ⟨#[]⟩) 24 Tryz.underlying89 info158 rfl ms.length (by omega) (by omega) W
 have hMl : (madeCells #[.int .i64 0, .string ⟨#[]⟩] (ms.length * 2)).toList.length = ms.length * 2 := by simp [size_madeCells]
 obtain ⟨M, hM⟩ : ∃ M : List Value, (madeCells #[.int .i64 0, .string ⟨#[]⟩] (ms.length * 2)) = M.toArray := ⟨_, (Array.toArray_toList ..).symm⟩
 rw [hM] at hmk hMl
 have HMl : Hid (M.length = ms.length * 2) := by unfold Hid; simpa using hMl
 have HA := Lib.hid hA
 have HD := Lib.hid hd
 clear hM hMl hA hd
 go_enter Tryz.func121, Tryz.ntmps121
 go_wp2
 go_loopw [13] (fun i wr => ∃ k : Nat, k ≤ ms.length ∧ i = .int .i64 k ∧ Hid (Row wr w.heap.size 100 (markC ((ms.map (shiftM d)).take k) ++ M.drop (k * 2))) ∧ Hid (Below w.heap.size w wr)) (fun i _ => ms.length - (intOf i).toNat)
 case atStart => exact ⟨0, Nat.zero_le _, rfl, by have := Row.new w 100 M; simpa [markC, Hid] using this, (Below.refl _ _).alloc (Nat.le_refl _) _⟩
 case round =>
  obtain ⟨k, hk, rfl, Hrow, Hb⟩ := hrel
  by_cases hlt : k < ms.length
  · obtain ⟨b, off, hAb, hc1, hc2⟩ := Rd.mark (HA.out.below Hb.out) hlt
    subst hAb
    have hcd := keepC HD.out Hb.out
    have HCD : Hid (∀ o : Obj, (wr.alloc o).cell? ⟨gb, 0, none⟩ = some (.int .i64 d)) := fun o => keepC hcd ((Below.refl _ _).alloc (Nat.le_refl _) o)
    obtain ⟨ix, hix⟩ : ∃ ix, ix = ms[k].1 := ⟨_, rfl⟩
    obtain ⟨nm, hnm⟩ : ∃ nm, nm = ms[k].2 := ⟨_, rfl⟩
    rw [← hix] at hc1; rw [← hnm] at hc2
    have hset := set2 (markC ((ms.map (shiftM d)).take k)) M k (.int .i64 (wrap64 (ix + d))) (.string nm) (by rw [markC_length]; simp; omega) (by rw [HMl.out]; omega)
    have htk : markC ((ms.map (shiftM d)).take (k + 1)) = markC ((ms.map (shiftM d)).take k) ++ [.int .i64 (wrap64 (ix + d)), .string nm] := by
     rw [List.take_succ_eq_append_getElem (by simpa using hlt), markC_app]
     simp [markC, shiftM, hix, hnm]
    rw [← htk] at hset
    have Hset := Lib.hid hset
    clear hset htk hix hnm hcd
    go_wp2_with fail
    refine (moved1_any ix d nm gb _ (HCD.out _)).mono ?_
    rintro e w1 ⟨rfl, hb1⟩
    have Hrow1 := Lib.hid ((Hrow.out.alloc (.cells #[.int .i64 ix, .string nm] 100)).old hb1)
    have Hb1 : Hid (Below w.heap.size w w1) := (Hb.out.alloc Hb.out.size _).trans (hb1.mono (by have := Hb.out.size; simp; omega))
    have hl1 : k * 2 + 1 < (markC ((ms.map (shiftM d)).take k) ++ M.drop (k * 2)).length := by rw [List.length_append, markC_length, List.length_drop, HMl.out]; simp; omega
    have hX : (markC ((ms.map (shiftM d)).take k)).length = k * 2 := by rw [markC_length]; simp; omega
    obtain ⟨v0, hv0⟩ : ∃ v0, w1.cell? ⟨w.heap.size, k * 2, none⟩ = some v0 := ⟨_, Hrow1.out.cellAt (by omega)⟩
    obtain ⟨v1, hv1⟩ : ∃ v1, w1.cell? ⟨w.heap.size, k * 2 + 1, none⟩ = some v1 := ⟨_, Hrow1.out.cellAt hl1⟩
    have hf0 := Hrow1.out.free (k * 2)
    have hf1 := Hrow1.out.free (k * 2 + 1)
    clear hb1 hl1 hX
    go_wp2
    go_roundw
    case rel => exact ⟨k + 1, by omega, by go_num, by show Row _ _ _ _; rw [← Hset.out]; exact (Hrow1.out.set (k * 2) _).set (k * 2 + 1) _, (Hb1.out.setCell (by simp) _).setCell (by simp) _⟩
    case measure => simp [intOf]; omega
  · obtain rfl : k = ms.length := by omega
    go_wp2
    go_ret
    exact ⟨_, rfl, by have h := Hrow.out; rw [List.take_of_length_le (by simp), List.drop_of_length_le (by rw [HMl.out]; omega), List.append_nil] at h; exact h, Nat.le_refl _, Hb.out⟩
def wordI (l : List UInt8) : Int := if firstI [whenI l.isEmpty 12, whenI (decide (4 < l.length)) 26] ≠ 0 then firstI [whenI l.isEmpty 12, whenI (decide (4 < l.length)) 26] else if l.all (fun c => capB (u8I c)) then 0 else 1
theorem wordI_empty : wordI [] = 12 := by decide
theorem wordI_long {l : List UInt8} (h : 4 < l.length) : wordI l = 26 := by
 have he : l.isEmpty = false := by cases l with | nil => simp at h | cons a l => rfl
 unfold wordI; rw [he]; simp [h, firstI, whenI]
theorem wordI_short {l : List UInt8} (h0 : l.isEmpty = false) (h : l.length ≤ 4) : wordI l = if l.all (fun c => capB (u8I c)) then 0 else 1 := by
 have h4 : decide (4 < l.length) = false := by simp; omega
 unfold wordI; rw [h0, h4]; rfl
set_option maxRecDepth 100000 in
set_option maxHeartbeats 1000000 in
theorem checkWord_any (s : ByteArray) (w : World) : Calls Tryz.prog 87 #[.string s] w fun e w' => e = .returned (.int .i64 (wordI s.data.toList)) ∧ Below w.heap.size w w' := by
 have hl : s.data.toList.length = s.size := by simp
 by_cases h0 : s.size = 0
 · have he : s = ByteArray.empty := by
    obtain ⟨⟨l⟩⟩ := s
    cases l with
    | nil => rfl
    | cons a l => simp [ByteArray.size] at h0
   subst he
   clear h0 hl
   go_enter Tryz.func87, Tryz.ntmps87
   go_wp2_with (first | (go_at_call 81; refine (failed_any _ _ _).mono ?_; rintro e w1 ⟨rfl, rfl⟩) | (go_at_call 57; refine (firstV_any _ _ _ [whenI true 12, whenI false 26] _ ?_ rfl (by simp)).mono ?_; (exact Rd.new _ _ _ _ (by simp)); rintro e w1 ⟨rfl, rfl⟩) | (go_at_call 124; refine (isCapital_any _ _).mono ?_; rintro e w1 ⟨rfl, rfl⟩))
   go_ret
   exact ⟨rfl, (Below.refl _ _).alloc (Nat.le_refl _) _⟩
 · have hp : 0 < s.size := by omega
   have hne := isEmpty_eq s hp
   have hne2 : s.toList.isEmpty = false := by rw [ByteArray.toList_eq]; exact hne
   by_cases h1 : 4 < s.size
   · have HW := Lib.hid (wordI_long (l := s.data.toList) (by rw [hl]; exact h1))
     have h1b : decide ((4 : Int) < (s.size : Int)) = true := by simp; omega
     clear hl hne h0 hp
     go_enter Tryz.func87, Tryz.ntmps87
     go_wp2_with (first | (go_at_call 81; refine (failed_any _ _ _).mono ?_; rintro e w1 ⟨rfl, rfl⟩) | (go_at_call 57; refine (firstV_any _ _ _ [whenI false 12, whenI true 26] _ ?_ rfl (by simp)).mono ?_; (exact Rd.new _ _ _ _ (by simp)); rintro e w1 ⟨rfl, rfl⟩) | (go_at_call 124; refine (isCapital_any _ _).mono ?_; rintro e w1 ⟨rfl, rfl⟩))
     go_ret
     exact ⟨ret_int (by rw [HW.out]; rfl), (Below.refl _ _).alloc (Nat.le_refl _) _⟩
   · have h2 : s.size ≤ 4 := by omega
     have HW := Lib.hid (wordI_short hne (by rw [hl]; exact h2))
     have h1b : decide ((4 : Int) < (s.size : Int)) = false := by simp; omega
     clear h1 hne hl
     go_enter Tryz.func87, Tryz.ntmps87
     go_wp2_with (first | (go_at_call 81; refine (failed_any _ _ _).mono ?_; rintro e w1 ⟨rfl, rfl⟩) | (go_at_call 57; refine (firstV_any _ _ _ [whenI false 12, whenI false 26] _ ?_ rfl (by simp)).mono ?_; (exact Rd.new _ _ _ _ (by simp)); rintro e w1 ⟨rfl, rfl⟩) | (go_at_call 124; refine (isCapital_any _ _).mono ?_; rintro e w1 ⟨rfl, rfl⟩))
     go_loopg [19] s.size (fun g i wr => ∃ k : Nat, k ≤ s.size ∧ i = .int .i64 k ∧ g = s.size - k ∧ Hid ((s.data.toList.take k).all (fun c => capB (u8I c)) = true) ∧ Hid (Below w.heap.size w wr))
     case atStart => exact ⟨0, Nat.zero_le _, rfl, rfl, rfl, (Below.refl _ _).alloc (Nat.le_refl _) _⟩
     case round =>
      obtain ⟨k, hk, rfl, hg, H, HB⟩ := hrel
      subst hg
      by_cases hlt : k < s.size
      · have hall := Lib.hid (take_all_succ s k hlt (fun c => capB (u8I c)))
        have hbad := Lib.hid (all_false_of s k hlt (fun c => capB (u8I c)))
        cases hcap : capB (s[k].toNat : Int)
        · have Hc := Lib.hid hcap; clear hcap
          go_wp2_with (go_at_call 124; refine (isCapital_any _ _).mono ?_; rintro e w1 ⟨rfl, rfl⟩; rw [Hc.out])
          go_ret
          exact ⟨ret_int (by rw [HW.out, hbad.out (by unfold u8I; exact Hc.out)]; rfl), HB.out⟩
        · have Hc := Lib.hid hcap; clear hcap
          go_wp2_with (go_at_call 124; refine (isCapital_any _ _).mono ?_; rintro e w1 ⟨rfl, rfl⟩; rw [Hc.out])
          go_roundg (s.size - (k + 1))
          case measure => omega
          case rel => exact ⟨k + 1, by omega, by go_num, rfl, by show _ = true; rw [hall.out, H.out]; unfold u8I; rw [Hc.out]; rfl, HB⟩
      · go_wp2
        go_ret
        exact ⟨ret_int (by have := H.out; rw [List.take_of_length_le (by simp; omega)] at this; rw [HW.out, this]; rfl), HB.out⟩
def one32 : Nat := 1065353216
theorem Step.refl (w : World) (v : Value) : Step w w v v := ⟨World.grownBy.refl w _, .inl rfl⟩
theorem Step.trans {w w1 w2 : World} {v v1 v2 : Value} (h : Step w w1 v v1) (k : Step w1 w2 v1 v2) : Step w w2 v v2 := by
 have hs := h.1.size
 refine ⟨⟨k.1.os.trans h.1.os, k.1.tape.trans h.1.tape, k.1.output.trans h.1.output, Nat.le_trans hs k.1.size, fun j hj hne => ?_⟩, ?_⟩
 · have e1 := h.1.block j hj hne
   refine (k.1.block j (Nat.lt_of_lt_of_le hj hs) ?_).trans e1
   rcases h.2 with h2 | ⟨m, hm, hle⟩
   · rw [h2]; exact hne
   · rw [hm]; intro hh; cases hh; omega
 · rcases k.2 with k2 | ⟨m, hm, hle⟩
   · rcases h.2 with h2 | ⟨m', hm', hle'⟩
     · exact .inl (k2.trans h2)
     · exact .inr ⟨m', k2.trans hm', hle'⟩
   · exact .inr ⟨m, hm, by omega⟩
theorem Step.iter {w w1 : World} {v v1 : Value} (h : Step w w1 v v1) {k : Nat} (hk : w.heap.size ≤ k) (s : ByteArray) (pos : Nat) : Step w (w1.iterAt k s pos) v v1 :=
 ⟨⟨h.1.os, h.1.tape, h.1.output, by rw [Lib.iterAt_size]; exact h.1.size, fun j hj hne => (Lib.iterAt_other w1 k j s pos (by omega)).trans (h.1.block j hj hne)⟩, h.2⟩
theorem Step.alloc {w w1 : World} {v v1 : Value} (h : Step w w1 v v1) (o : Obj) : Step w (w1.alloc o) v v1 :=
 ⟨⟨h.1.os, h.1.tape, h.1.output, by rw [World.size_alloc]; have := h.1.size; omega, fun j hj hne => ((Below.heap_alloc w1 o j (by have := h.1.size; omega))).trans (h.1.block j hj hne)⟩, h.2⟩
theorem Step.heap {w w1 : World} {v v1 : Value} (h : Step w w1 v v1) {j : Nat} {o : Obj} (ho : w.heap[j]? = some o) (hj : some j ≠ v.ownBlock) : w1.heap[j]? = some o :=
 (h.1.block j (Array.getElem?_eq_some_iff.1 ho).1 hj).trans ho
theorem owns_iter {w : World} {B : Nat} {e : TypeId} {s n : Nat} {v : Value} {xs : List Value} (h : w.ownsRow B e s v n xs) {k : Nat} (hk : v.ownBlock ≠ some k) (t : ByteArray) (pos : Nat) : (w.iterAt k t pos).ownsRow B e s v n xs := by
 refine ⟨h.1, ?_⟩
 rcases h.2 with h2 | ⟨g, cap, cur, h1, h2, h3, h4⟩
 · exact .inl h2
 · refine .inr ⟨g, cap, cur, h1, h2, ?_, h4⟩
   rw [Lib.iterAt_other _ _ _ _ _ (fun hh => hk (by rw [h1, hh]; rfl))]; exact h3
set_option maxRecDepth 100000 in
set_option maxHeartbeats 1000000 in
theorem held_step (B : Nat) (v : Value) (xs : List Nat) (b : Nat) (m : Int) (w : World) (hown : w.ownsRow B 27 1 v xs.length (flts xs)) (hB : B ≤ w.heap.size) (hm : m ≤ 1000000) (hx : xs.length ≤ 1000000) :
 Calls Tryz.prog 88 #[v, .float .f32 b, .int .i64 m] w fun e w' => ∃ v', e = .returned v' ∧ w'.ownsRow B 27 1 v' (xs ++ List.replicate m.toNat b).length (flts (xs ++ List.replicate m.toNat b)) ∧ Step w w' v v' := by
 by_cases hneg : m ≤ 0
 · have h0 : m.toNat = 0 := by omega
   have H0 := Lib.hid h0; clear h0
   go_enter Tryz.func88, Tryz.ntmps88
   go_wp2
   refine wp_loop_rounds 1 ?_
   rw [rounds_succ]
   go_wp2
   go_ret
   exact ⟨_, rfl, by rw [H0.out]; simpa using hown, Step.refl _ _⟩
 · obtain ⟨q, rfl⟩ := Int.eq_ofNat_of_zero_le (show 0 ≤ m by omega)
   obtain ⟨i0, hi, hz0, hz1, hz2⟩ := info_parts info37
   go_enter Tryz.func88, Tryz.ntmps88
   go_wp2
   go_loopw [0, 8] (fun u i wr => ∃ k : Nat, k ≤ q ∧ i = .int .i64 k ∧ wr.ownsRow B 27 1 u (xs.length + k) (flts (xs ++ List.replicate k b)) ∧ Step w wr v u) (fun _ i _ => q - (intOf i).toNat)
   case atStart => exact ⟨0, Nat.zero_le _, rfl, by simpa using hown, Step.refl _ _⟩
   case round =>
    clear hown
    obtain ⟨k, hk, rfl, hown, hb⟩ := hrel
    have hsz := hb.1.size
    have Hb := Lib.hid hb
    clear hb
    by_cases hlt : k < q
    · go_wp2_with (at_builtin; refine wpList_append_own_at _ rfl _ _ 45 rfl B 27 i0 (.float .f32 0) 1 4 Tryz.underlying45 hi hz0 hz1 hz2 rfl (by decide) _ _ _ rfl (hown.alloc _) ⟨wr.heap.size, 0, none⟩ 1 1 [.float .f32 b] rfl rfl (news1 _ _ _ _ rfl) ?c2 ?c3 ?c4 ?c5 ?_)
      case c2 => simp [Value.oneCell']
      case c3 => unfold maxLen; omega
      case c4 => omega
      case c5 => simp; omega
      intro v' w1 hown' hgrow _ hat
      have hu := Lib.hid (flts_snoc xs b k)
      have hb1 := Lib.hid (Hb.out.trans (Step.of_alloc hgrow (by rw [World.size_alloc]; exact hat)))
      have ho1 := Lib.hid hown'
      clear hown' hgrow hown hat
      go_wp2
      go_roundw
      case rel => exact ⟨k + 1, by omega, by go_num, by rw [hu.out]; exact ho1.out, hb1.out⟩
      case measure => simp [intOf]; omega
    · obtain rfl : k = q := by omega
      go_wp2
      go_ret
      exact ⟨_, rfl, by simpa using hown, Hb.out⟩
end Go.Proofs.YtkfkmnfejeocpaaGreatDoor
